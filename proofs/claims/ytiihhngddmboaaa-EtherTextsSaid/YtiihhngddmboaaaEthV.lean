/-
  Chapter 4 (ether): any text is an address, or refused, by a walk of each text. Conditions: none but those typed.
-/
import Derived.Test.YtiihhngddmboaaaEthT
import Derived.Lib.Bytealg
import Derived.Laws.Strings
import Derived.Shelf.Strings.Search1
namespace Go.Proofs.Ytiihhngddmboaaa.eth
set_option linter.unusedVariables false
set_option linter.unusedSimpArgs false
open Go.ChangeShapes Go.WideShapes Go.ChangeAt Go.RowKit Go.IntWalk Go.Lib
/-- A text's byte at a place. -/
def ch (s : ByteArray) (i : Nat) : Int := ((s.data.toList.getD i 0).toNat : Int)
theorem ch_bd (s : ByteArray) (i : Nat) : 0 ≤ ch s i ∧ ch s i ≤ 255 := by
  unfold ch
  have := (s.data.toList.getD i 0).toNat_lt
  omega
theorem ixs (s : ByteArray) (i : Nat) (h : i < s.size) (W : World) : (Instr.index 9 (.string s) (.int .i64 (i : Int))).run Try.prog W = .ok (.int .u8 (ch s i)) W := by
  rw [run_index_string W 9 s .i64 (i : Int) Try.underlying9, dif_pos ⟨by omega, by omega⟩]
  have hl : i < s.data.toList.length := by rw [Array.length_toList]; exact h
  have e : (s[((i : Nat) : Int).toNat]'(by omega)) = s.data.toList.getD i 0 := by
    simp only [Int.toNat_natCast]
    rw [List.getD_eq_getElem?_getD, List.getElem?_eq_getElem hl]
    rfl
  unfold ch
  rw [e]
def low (c : Int) : Int := if 65 ≤ c ∧ c ≤ 90 then c + 32 else c
def dig (c : Int) : Int := if 48 ≤ c ∧ c ≤ 57 then c - 48 else if 97 ≤ c ∧ c ≤ 102 then c - 87 else if 65 ≤ c ∧ c ≤ 70 then c - 55 else -1
theorem dig_bd (c : Int) : -1 ≤ dig c ∧ dig c ≤ 15 := by unfold dig; split <;> (try split) <;> (try split) <;> omega
theorem low_bd (c : Int) (h : 0 ≤ c ∧ c ≤ 255) : 0 ≤ low c ∧ low c ≤ 255 := by unfold low; split <;> omega
theorem idx_dig (c : Int) (h : 0 ≤ c ∧ c ≤ 255) : Lib.indexByte (ByteArray.mk #[48, 49, 50, 51, 52, 53, 54, 55, 56, 57, 97, 98, 99, 100, 101, 102]).data.toList (low c).toNat.toUInt8 = dig c := by
  obtain ⟨n, rfl⟩ := Int.eq_ofNat_of_zero_le h.1
  have key : ∀ m : Fin 256, Lib.indexByte (ByteArray.mk #[48, 49, 50, 51, 52, 53, 54, 55, 56, 57, 97, 98, 99, 100, 101, 102]).data.toList (low (m.val : Int)).toNat.toUInt8 = dig (m.val : Int) := by decide +kernel
  exact key ⟨n, by omega⟩
theorem or8 (a b : Int) (ha : 0 ≤ a ∧ a ≤ 15) (hb : 0 ≤ b ∧ b ≤ 15) : bits .or .u8 (a * 16) b = a * 16 + b := by
  obtain ⟨n, rfl⟩ := Int.eq_ofNat_of_zero_le ha.1
  obtain ⟨m, rfl⟩ := Int.eq_ofNat_of_zero_le hb.1
  have key : ∀ (x y : Fin 16), bits .or .u8 ((x.val : Int) * 16) (y.val : Int) = (x.val : Int) * 16 + (y.val : Int) := by decide +kernel
  exact key ⟨n, by omega⟩ ⟨m, by omega⟩
theorem or0 (b : Int) (hb : 0 ≤ b ∧ b ≤ 15) : bits .or .u8 0 b = b := by have h := or8 0 b (by omega) hb; simpa using h
theorem lower1 (w : World) (c : Int) (h : 0 ≤ c ∧ c ≤ 255) : Calls Try.prog 36 #[.int .u8 c] w fun x w' => x = .returned (.int .u8 (low c)) ∧ w = w' := by
  by_cases h1 : 65 ≤ c
  · by_cases h2 : c ≤ 90
    · have HL : Hid (low c = c + 32) := hid (by unfold low; rw [if_pos ⟨h1, h2⟩])
      have e1 : (c + 97) % 256 = c + 97 := by omega
      go_enter Try.func36, Try.ntmps36
      go_wp2
      go_ret
      exact ⟨rInt (by rw [HL.out]; omega), rfl⟩
    · have HL : Hid (low c = c) := hid (by unfold low; rw [if_neg (by omega)])
      go_enter Try.func36, Try.ntmps36
      go_wp2
      go_ret
      exact ⟨rInt HL.out.symm, rfl⟩
  · have HL : Hid (low c = c) := hid (by unfold low; rw [if_neg (by omega)])
    go_enter Try.func36, Try.ntmps36
    go_wp2
    go_ret
    exact ⟨rInt HL.out.symm, rfl⟩
theorem idxL (w : World) (s : ByteArray) (c : Int) : Calls Try.prog 39 #[.string s, .int .u8 c] w fun e w' => e = .returned (.int .i64 (Lib.indexByte s.data.toList c.toNat.toUInt8)) ∧ w = w' := by
  go_enter Try.func39, Try.ntmps39
  go_wp2
  rw [run_callFunc_extern Try.func41 (by kernel_rfl) (by kernel_rfl) (by kernel_rfl) (e := Extern.BytealgIndexByte.indexByte) (by kernel_rfl), Lib.run_indexByteString]
  simp only [Result.andThen]
  rw [Oper.upon_value]
  go_wp2
  go_ret
  exact ⟨rfl, rfl⟩
theorem idxB (w : World) (c : Int) (h : 0 ≤ c ∧ c ≤ 255) : Calls Try.prog 35 #[.string ⟨#[48, 49, 50, 51, 52, 53, 54, 55, 56, 57, 97, 98, 99, 100, 101, 102]⟩, .int .u8 (low c)] w fun x w' => x = .returned (.int .i64 (dig c)) ∧ w = w' := by
  have HD := hid (idx_dig c h)
  have hl := low_bd c h
  go_enter Try.func35, Try.ntmps35
  go_wp2_with fail
  refine (idxL w _ (low c)).mono ?_
  rintro x w' ⟨rfl, rfl⟩
  go_wp2
  go_ret
  exact ⟨rInt HD.out, rfl⟩
def okB (s : ByteArray) (i : Nat) : Bool := if i % 3 = 2 then decide (ch s i = 58) else decide (0 ≤ dig (ch s i))
def good (s : ByteArray) : Bool := decide (s.size = 17) && (List.range 17).all (okB s)
def pm (s : ByteArray) : Array Value := if good s = true then #[.int .u8 (dig (ch s 0) * 16 + dig (ch s 1)), .int .u8 (dig (ch s 3) * 16 + dig (ch s 4)), .int .u8 (dig (ch s 6) * 16 + dig (ch s 7)), .int .u8 (dig (ch s 9) * 16 + dig (ch s 10)), .int .u8 (dig (ch s 12) * 16 + dig (ch s 13)), .int .u8 (dig (ch s 15) * 16 + dig (ch s 16))] else #[.int .u8 0, .int .u8 0, .int .u8 0, .int .u8 0, .int .u8 0, .int .u8 0]
def pe (s : ByteArray) : Int := if good s = true then 0 else 3
theorem bad_at (s : ByteArray) (k : Nat) (hk : k < 17) (h : okB s k = false) : good s = false := by
  unfold good
  rw [Bool.and_eq_false_iff]
  right
  rw [List.all_eq_false]
  exact ⟨k, by simpa using hk, by simp [h]⟩
theorem good_all (s : ByteArray) (h0 : s.size = 17) (h : ∀ j, j < 17 → okB s j = true) : good s = true := by
  unfold good
  rw [Bool.and_eq_true]
  exact ⟨by simpa using h0, by rw [List.all_eq_true]; intro j hj; exact h j (by simpa using hj)⟩
def PEnd (w : World) (s : ByteArray) (x : Ending) (w' : World) : Prop := x = .returned (.tuple #[.agg (pm s), .int .i64 (pe s)]) ∧ Only [] w w'
theorem PEnd.no {w w' : World} {s : ByteArray} (h : good s = false) (o : Only [] w w') : PEnd w s (.returned (.tuple #[.agg #[.int .u8 0, .int .u8 0, .int .u8 0, .int .u8 0, .int .u8 0, .int .u8 0], .int .i64 3])) w' := by
  unfold PEnd pm pe
  rw [h]
  exact ⟨rfl, o⟩
theorem okext {s : ByteArray} {k : Nat} (h : ∀ j, j < k → okB s j = true) (hk : okB s k = true) : ∀ j, j < k + 1 → okB s j = true := fun j hj => by
  rcases Nat.lt_or_ge j k with h1 | h1
  · exact h j h1
  · obtain rfl : j = k := by omega
    exact hk
set_option maxHeartbeats 1000000 in
theorem parseShort (w : World) (s : ByteArray) (h : s.size ≠ 17) : Calls Try.prog 20 #[.string s] w (PEnd w s) := by
  have hg : Hid (good s = false) := hid (by unfold good; simp [h])
  have hs : ¬ (s.size : Int) = 17 := by omega
  have OR : Hid (Ob (w.alloc (.cells #[.int .u8 0, .int .u8 0, .int .u8 0, .int .u8 0, .int .u8 0, .int .u8 0] 23)) w.heap.size 23 #[.int .u8 0, .int .u8 0, .int .u8 0, .int .u8 0, .int .u8 0, .int .u8 0]) := hid (Ob.new _ _ _)
  have QB : Hid (Only [] w (w.alloc (.cells #[.int .u8 0, .int .u8 0, .int .u8 0, .int .u8 0, .int .u8 0, .int .u8 0] 23))) := hid ((Only.refl [] w).alloc _)
  go_enter Try.func20, Try.ntmps20
  go_wp2
  go_step3
  go_wp2_with (refine wp_storeOb rfl 23 _ _ rfl _ _ rfl rfl _ _ OR.out rfl (by kernel_rfl) (by simp [Value.oneCell']) (fun W5 hW5 => ?_); try simp only [Act.put, List.setIfInBounds_toArray, List.set_cons_zero, List.set_cons_succ]; have OR5 := hid (OR.out.eq_all hW5 rfl); have QB5 := hid (QB.out.eq_all hW5 (Or.inr (by simp))); clear hW5)
  have r0 := OR5.out.cell 0; have r1 := OR5.out.cell 1; have r2 := OR5.out.cell 2; have r3 := OR5.out.cell 3; have r4 := OR5.out.cell 4; have r5 := OR5.out.cell 5
  try rw [Exit.noGoto_ret]
  exact bodyPost_ret (v := .tuple #[.agg #[.int .u8 0, .int .u8 0, .int .u8 0, .int .u8 0, .int .u8 0, .int .u8 0], .int .i64 3]) (by simp [results, Try.results20, go_sem, *]) rfl (PEnd.no hg.out QB5.out)
set_option maxRecDepth 100000 in
set_option maxHeartbeats 8000000 in
theorem parse17 (w : World) (s : ByteArray) (hs17 : s.size = 17) : Calls Try.prog 20 #[.string s] w (PEnd w s) := by
  have hs : (s.size : Int) = 17 := by omega
  have hix : Hid (∀ (k : Nat), k < 17 → ∀ W : World, (Instr.index 9 (.string s) (.int .i64 (k : Int))).run Try.prog W = .ok (.int .u8 (ch s k)) W) := hid (fun k hk W => ixs s k (by omega) W)
  obtain ⟨d0, h⟩ : ∃ d, dig (ch s 0) = d := ⟨_, rfl⟩
  have H0 := hid h; clear h
  obtain ⟨d1, h⟩ : ∃ d, dig (ch s 1) = d := ⟨_, rfl⟩
  have H1 := hid h; clear h
  obtain ⟨d3, h⟩ : ∃ d, dig (ch s 3) = d := ⟨_, rfl⟩
  have H3 := hid h; clear h
  obtain ⟨d4, h⟩ : ∃ d, dig (ch s 4) = d := ⟨_, rfl⟩
  have H4 := hid h; clear h
  obtain ⟨d6, h⟩ : ∃ d, dig (ch s 6) = d := ⟨_, rfl⟩
  have H6 := hid h; clear h
  obtain ⟨d7, h⟩ : ∃ d, dig (ch s 7) = d := ⟨_, rfl⟩
  have H7 := hid h; clear h
  obtain ⟨d9, h⟩ : ∃ d, dig (ch s 9) = d := ⟨_, rfl⟩
  have H9 := hid h; clear h
  obtain ⟨d10, h⟩ : ∃ d, dig (ch s 10) = d := ⟨_, rfl⟩
  have H10 := hid h; clear h
  obtain ⟨d12, h⟩ : ∃ d, dig (ch s 12) = d := ⟨_, rfl⟩
  have H12 := hid h; clear h
  obtain ⟨d13, h⟩ : ∃ d, dig (ch s 13) = d := ⟨_, rfl⟩
  have H13 := hid h; clear h
  obtain ⟨d15, h⟩ : ∃ d, dig (ch s 15) = d := ⟨_, rfl⟩
  have H15 := hid h; clear h
  obtain ⟨d16, h⟩ : ∃ d, dig (ch s 16) = d := ⟨_, rfl⟩
  have H16 := hid h; clear h
  have OR0 : Hid (Ob ((w.alloc (.cells #[.int .u8 0, .int .u8 0, .int .u8 0, .int .u8 0, .int .u8 0, .int .u8 0] 23)).alloc (.cells #[.int .u8 0, .int .u8 0, .int .u8 0, .int .u8 0, .int .u8 0, .int .u8 0] 23)) w.heap.size 23 #[.int .u8 0, .int .u8 0, .int .u8 0, .int .u8 0, .int .u8 0, .int .u8 0]) := hid ((Ob.new _ _ _).alloc _)
  have OM0 : Hid (Ob ((w.alloc (.cells #[.int .u8 0, .int .u8 0, .int .u8 0, .int .u8 0, .int .u8 0, .int .u8 0] 23)).alloc (.cells #[.int .u8 0, .int .u8 0, .int .u8 0, .int .u8 0, .int .u8 0, .int .u8 0] 23)) (w.heap.size + 1) 23 #[.int .u8 0, .int .u8 0, .int .u8 0, .int .u8 0, .int .u8 0, .int .u8 0]) := hid (by simpa using Ob.new (w.alloc (.cells #[.int .u8 0, .int .u8 0, .int .u8 0, .int .u8 0, .int .u8 0, .int .u8 0] 23)) 23 #[.int .u8 0, .int .u8 0, .int .u8 0, .int .u8 0, .int .u8 0, .int .u8 0])
  have QB0 : Hid (Only [] w ((w.alloc (.cells #[.int .u8 0, .int .u8 0, .int .u8 0, .int .u8 0, .int .u8 0, .int .u8 0] 23)).alloc (.cells #[.int .u8 0, .int .u8 0, .int .u8 0, .int .u8 0, .int .u8 0, .int .u8 0] 23))) := hid (((Only.refl [] w).alloc _).alloc _)
  go_enter Try.func20, Try.ntmps20
  go_wp2
  go_step3
  go_wp2
  go_step3
  go_wp2
  generalize hW1 : ((w.alloc (.cells #[.int .u8 0, .int .u8 0, .int .u8 0, .int .u8 0, .int .u8 0, .int .u8 0] 23)).alloc (.cells #[.int .u8 0, .int .u8 0, .int .u8 0, .int .u8 0, .int .u8 0, .int .u8 0] 23)) = W1 at *
  go_loopw [5, 14] (fun wg i wr => wg = .bool false ∧ ((i = .int .i64 0 ∧ Hid (∀ j, j < 0 → okB s j = true) ∧ Hid (Ob wr (w.heap.size + 1) 23 #[.int .u8 0, .int .u8 0, .int .u8 0, .int .u8 0, .int .u8 0, .int .u8 0])) ∨ (i = .int .i64 1 ∧ Hid (∀ j, j < 1 → okB s j = true) ∧ Hid (Ob wr (w.heap.size + 1) 23 #[.int .u8 d0, .int .u8 0, .int .u8 0, .int .u8 0, .int .u8 0, .int .u8 0])) ∨ (i = .int .i64 2 ∧ Hid (∀ j, j < 2 → okB s j = true) ∧ Hid (Ob wr (w.heap.size + 1) 23 #[.int .u8 (d0 * 16 + d1), .int .u8 0, .int .u8 0, .int .u8 0, .int .u8 0, .int .u8 0])) ∨ (i = .int .i64 3 ∧ Hid (∀ j, j < 3 → okB s j = true) ∧ Hid (Ob wr (w.heap.size + 1) 23 #[.int .u8 (d0 * 16 + d1), .int .u8 0, .int .u8 0, .int .u8 0, .int .u8 0, .int .u8 0])) ∨ (i = .int .i64 4 ∧ Hid (∀ j, j < 4 → okB s j = true) ∧ Hid (Ob wr (w.heap.size + 1) 23 #[.int .u8 (d0 * 16 + d1), .int .u8 d3, .int .u8 0, .int .u8 0, .int .u8 0, .int .u8 0])) ∨ (i = .int .i64 5 ∧ Hid (∀ j, j < 5 → okB s j = true) ∧ Hid (Ob wr (w.heap.size + 1) 23 #[.int .u8 (d0 * 16 + d1), .int .u8 (d3 * 16 + d4), .int .u8 0, .int .u8 0, .int .u8 0, .int .u8 0])) ∨ (i = .int .i64 6 ∧ Hid (∀ j, j < 6 → okB s j = true) ∧ Hid (Ob wr (w.heap.size + 1) 23 #[.int .u8 (d0 * 16 + d1), .int .u8 (d3 * 16 + d4), .int .u8 0, .int .u8 0, .int .u8 0, .int .u8 0])) ∨ (i = .int .i64 7 ∧ Hid (∀ j, j < 7 → okB s j = true) ∧ Hid (Ob wr (w.heap.size + 1) 23 #[.int .u8 (d0 * 16 + d1), .int .u8 (d3 * 16 + d4), .int .u8 d6, .int .u8 0, .int .u8 0, .int .u8 0])) ∨ (i = .int .i64 8 ∧ Hid (∀ j, j < 8 → okB s j = true) ∧ Hid (Ob wr (w.heap.size + 1) 23 #[.int .u8 (d0 * 16 + d1), .int .u8 (d3 * 16 + d4), .int .u8 (d6 * 16 + d7), .int .u8 0, .int .u8 0, .int .u8 0])) ∨ (i = .int .i64 9 ∧ Hid (∀ j, j < 9 → okB s j = true) ∧ Hid (Ob wr (w.heap.size + 1) 23 #[.int .u8 (d0 * 16 + d1), .int .u8 (d3 * 16 + d4), .int .u8 (d6 * 16 + d7), .int .u8 0, .int .u8 0, .int .u8 0])) ∨ (i = .int .i64 10 ∧ Hid (∀ j, j < 10 → okB s j = true) ∧ Hid (Ob wr (w.heap.size + 1) 23 #[.int .u8 (d0 * 16 + d1), .int .u8 (d3 * 16 + d4), .int .u8 (d6 * 16 + d7), .int .u8 d9, .int .u8 0, .int .u8 0])) ∨ (i = .int .i64 11 ∧ Hid (∀ j, j < 11 → okB s j = true) ∧ Hid (Ob wr (w.heap.size + 1) 23 #[.int .u8 (d0 * 16 + d1), .int .u8 (d3 * 16 + d4), .int .u8 (d6 * 16 + d7), .int .u8 (d9 * 16 + d10), .int .u8 0, .int .u8 0])) ∨ (i = .int .i64 12 ∧ Hid (∀ j, j < 12 → okB s j = true) ∧ Hid (Ob wr (w.heap.size + 1) 23 #[.int .u8 (d0 * 16 + d1), .int .u8 (d3 * 16 + d4), .int .u8 (d6 * 16 + d7), .int .u8 (d9 * 16 + d10), .int .u8 0, .int .u8 0])) ∨ (i = .int .i64 13 ∧ Hid (∀ j, j < 13 → okB s j = true) ∧ Hid (Ob wr (w.heap.size + 1) 23 #[.int .u8 (d0 * 16 + d1), .int .u8 (d3 * 16 + d4), .int .u8 (d6 * 16 + d7), .int .u8 (d9 * 16 + d10), .int .u8 d12, .int .u8 0])) ∨ (i = .int .i64 14 ∧ Hid (∀ j, j < 14 → okB s j = true) ∧ Hid (Ob wr (w.heap.size + 1) 23 #[.int .u8 (d0 * 16 + d1), .int .u8 (d3 * 16 + d4), .int .u8 (d6 * 16 + d7), .int .u8 (d9 * 16 + d10), .int .u8 (d12 * 16 + d13), .int .u8 0])) ∨ (i = .int .i64 15 ∧ Hid (∀ j, j < 15 → okB s j = true) ∧ Hid (Ob wr (w.heap.size + 1) 23 #[.int .u8 (d0 * 16 + d1), .int .u8 (d3 * 16 + d4), .int .u8 (d6 * 16 + d7), .int .u8 (d9 * 16 + d10), .int .u8 (d12 * 16 + d13), .int .u8 0])) ∨ (i = .int .i64 16 ∧ Hid (∀ j, j < 16 → okB s j = true) ∧ Hid (Ob wr (w.heap.size + 1) 23 #[.int .u8 (d0 * 16 + d1), .int .u8 (d3 * 16 + d4), .int .u8 (d6 * 16 + d7), .int .u8 (d9 * 16 + d10), .int .u8 (d12 * 16 + d13), .int .u8 d15])) ∨ (i = .int .i64 17 ∧ Hid (∀ j, j < 17 → okB s j = true) ∧ Hid (Ob wr (w.heap.size + 1) 23 #[.int .u8 (d0 * 16 + d1), .int .u8 (d3 * 16 + d4), .int .u8 (d6 * 16 + d7), .int .u8 (d9 * 16 + d10), .int .u8 (d12 * 16 + d13), .int .u8 (d15 * 16 + d16)]))) ∧ Hid (Only [w.heap.size + 1] W1 wr)) (fun _ i _ => 17 - (RowKit.intOf i).toNat)
  case atStart => exact ⟨rfl, .inl ⟨rfl, hid (fun j hj => absurd hj (by omega)), OM0⟩, hid (Only.refl _ _)⟩
  case round =>
    obtain ⟨rfl, hh, HB⟩ := hrel
    have OR := hid (OR0.out.only HB.out (by simp)); have QB := hid (QB0.out.fresh HB.out (by simp))
    rcases hh with hh | hh | hh | hh | hh | hh | hh | hh | hh | hh | hh | hh | hh | hh | hh | hh | hh | hh
    · skip
      obtain ⟨rfl, HO, OM⟩ := hh
      have hx : ∀ W, (Instr.index 9 (.string s) (.int .i64 0)).run Try.prog W = .ok (.int .u8 (ch s 0)) W := fun W => hix.out 0 (by omega) W
      have hcb := ch_bd s 0
      go_wp2_with fail
      refine (lower1 _ (ch s 0) hcb).mono ?_
      rintro x w2 ⟨rfl, hw⟩
      subst hw
      go_wp2_with fail
      refine (idxB _ (ch s 0) hcb).mono ?_
      rintro x w2 ⟨rfl, hw⟩
      subst hw
      clear hx hcb
      have hdb := dig_bd (ch s 0)
      have HKK : Hid (okB s 0 = decide (0 ≤ dig (ch s 0))) := hid (by unfold okB; rw [if_neg (by decide)])
      rw [H0.out] at hdb HKK
      rw [H0.out]
      by_cases hd : 0 ≤ d0
      · have HN := hid (okext HO.out (by rw [HKK.out]; simpa using hd))
        have hor := or0 d0 (by omega)
        have m0 := OM.out.cell 0; have n0 := OM.out.frozen 0
        have OM2 : Hid (Ob (wr.setCell ⟨w.heap.size + 1, 0, none⟩ (.int .u8 d0)) (w.heap.size + 1) 23 #[.int .u8 d0, .int .u8 0, .int .u8 0, .int .u8 0, .int .u8 0, .int .u8 0]) := hid (OM.out.set 0 (.int .u8 d0))
        have HB2 := hid (HB.out.setCell (p := ⟨w.heap.size + 1, 0, none⟩) (Or.inl (by simp)) (.int .u8 d0))
        go_wp2
        go_roundw
        case rel => exact ⟨rfl, .inr (.inl ⟨rfl, HN, OM2⟩), HB2⟩
        case measure => simp [RowKit.intOf]
      · have HN := hid (bad_at s 0 (by omega) (by rw [HKK.out]; simpa using hd))
        go_wp2_with (refine wp_storeOb rfl 23 _ _ rfl _ _ rfl rfl _ _ OR.out rfl (by kernel_rfl) (by simp [Value.oneCell']) (fun W5 hW5 => ?_); try simp only [Act.put, List.setIfInBounds_toArray, List.set_cons_zero, List.set_cons_succ]; have OR5 := hid (OR.out.eq_all hW5 rfl); have QB5 := hid (QB.out.eq_all hW5 (Or.inr (by simp))); clear hW5)
        have r0 := OR5.out.cell 0; have r1 := OR5.out.cell 1; have r2 := OR5.out.cell 2; have r3 := OR5.out.cell 3; have r4 := OR5.out.cell 4; have r5 := OR5.out.cell 5
        try rw [Exit.noGoto_ret]
        exact bodyPost_ret (v := .tuple #[.agg #[.int .u8 0, .int .u8 0, .int .u8 0, .int .u8 0, .int .u8 0, .int .u8 0], .int .i64 3]) (by simp [results, Try.results20, go_sem, *]) rfl (PEnd.no HN.out QB5.out)
    · skip
      obtain ⟨rfl, HO, OM⟩ := hh
      have hx : ∀ W, (Instr.index 9 (.string s) (.int .i64 1)).run Try.prog W = .ok (.int .u8 (ch s 1)) W := fun W => hix.out 1 (by omega) W
      have hcb := ch_bd s 1
      go_wp2_with fail
      refine (lower1 _ (ch s 1) hcb).mono ?_
      rintro x w2 ⟨rfl, hw⟩
      subst hw
      go_wp2_with fail
      refine (idxB _ (ch s 1) hcb).mono ?_
      rintro x w2 ⟨rfl, hw⟩
      subst hw
      clear hx hcb
      have hdb := dig_bd (ch s 1)
      have HKK : Hid (okB s 1 = decide (0 ≤ dig (ch s 1))) := hid (by unfold okB; rw [if_neg (by decide)])
      rw [H1.out] at hdb HKK
      rw [H1.out]
      by_cases hd : 0 ≤ d1
      · have HN := hid (okext HO.out (by rw [HKK.out]; simpa using hd))
        have hp := HO.out 0 (by omega)
        have hp2 : 0 ≤ d0 := by rw [← H0.out]; unfold okB at hp; rw [if_neg (by decide)] at hp; simpa using hp
        have hp3 : d0 ≤ 15 := by rw [← H0.out]; exact (dig_bd _).2
        have hor := or8 d0 d1 (by omega) (by omega)
        clear hp
        have m0 := OM.out.cell 0; have n0 := OM.out.frozen 0
        have OM2 : Hid (Ob (wr.setCell ⟨w.heap.size + 1, 0, none⟩ (.int .u8 (d0 * 16 + d1))) (w.heap.size + 1) 23 #[.int .u8 (d0 * 16 + d1), .int .u8 0, .int .u8 0, .int .u8 0, .int .u8 0, .int .u8 0]) := hid (OM.out.set 0 (.int .u8 (d0 * 16 + d1)))
        have HB2 := hid (HB.out.setCell (p := ⟨w.heap.size + 1, 0, none⟩) (Or.inl (by simp)) (.int .u8 (d0 * 16 + d1)))
        go_wp2
        go_roundw
        case rel => exact ⟨rfl, .inr (.inr (.inl ⟨rfl, HN, OM2⟩)), HB2⟩
        case measure => simp [RowKit.intOf]
      · have HN := hid (bad_at s 1 (by omega) (by rw [HKK.out]; simpa using hd))
        go_wp2_with (refine wp_storeOb rfl 23 _ _ rfl _ _ rfl rfl _ _ OR.out rfl (by kernel_rfl) (by simp [Value.oneCell']) (fun W5 hW5 => ?_); try simp only [Act.put, List.setIfInBounds_toArray, List.set_cons_zero, List.set_cons_succ]; have OR5 := hid (OR.out.eq_all hW5 rfl); have QB5 := hid (QB.out.eq_all hW5 (Or.inr (by simp))); clear hW5)
        have r0 := OR5.out.cell 0; have r1 := OR5.out.cell 1; have r2 := OR5.out.cell 2; have r3 := OR5.out.cell 3; have r4 := OR5.out.cell 4; have r5 := OR5.out.cell 5
        try rw [Exit.noGoto_ret]
        exact bodyPost_ret (v := .tuple #[.agg #[.int .u8 0, .int .u8 0, .int .u8 0, .int .u8 0, .int .u8 0, .int .u8 0], .int .i64 3]) (by simp [results, Try.results20, go_sem, *]) rfl (PEnd.no HN.out QB5.out)
    · skip
      obtain ⟨rfl, HO, OM⟩ := hh
      have hx : ∀ W, (Instr.index 9 (.string s) (.int .i64 2)).run Try.prog W = .ok (.int .u8 (ch s 2)) W := fun W => hix.out 2 (by omega) W
      by_cases hc : ch s 2 = 58
      · have hk : okB s 2 = true := by unfold okB; rw [if_pos (by decide)]; simpa using hc
        have HN := hid (okext HO.out hk)
        rw [hc] at hx
        clear hk hc
        go_wp2
        go_roundw
        case rel => exact ⟨rfl, .inr (.inr (.inr (.inl ⟨rfl, HN, OM⟩))), HB⟩
        case measure => simp [RowKit.intOf]
      · have hk : okB s 2 = false := by unfold okB; rw [if_pos (by decide)]; simpa using hc
        have HN := hid (bad_at s 2 (by omega) hk)
        have hc2 : (ch s 2 == 58) = false := by simpa using hc
        have hc3 : (ch s 2 != 58) = true := by simpa using hc
        clear hk hc
        go_wp2_with (refine wp_storeOb rfl 23 _ _ rfl _ _ rfl rfl _ _ OR.out rfl (by kernel_rfl) (by simp [Value.oneCell']) (fun W5 hW5 => ?_); try simp only [Act.put, List.setIfInBounds_toArray, List.set_cons_zero, List.set_cons_succ]; have OR5 := hid (OR.out.eq_all hW5 rfl); have QB5 := hid (QB.out.eq_all hW5 (Or.inr (by simp))); clear hW5)
        have r0 := OR5.out.cell 0; have r1 := OR5.out.cell 1; have r2 := OR5.out.cell 2; have r3 := OR5.out.cell 3; have r4 := OR5.out.cell 4; have r5 := OR5.out.cell 5
        try rw [Exit.noGoto_ret]
        exact bodyPost_ret (v := .tuple #[.agg #[.int .u8 0, .int .u8 0, .int .u8 0, .int .u8 0, .int .u8 0, .int .u8 0], .int .i64 3]) (by simp [results, Try.results20, go_sem, *]) rfl (PEnd.no HN.out QB5.out)
    · skip
      obtain ⟨rfl, HO, OM⟩ := hh
      have hx : ∀ W, (Instr.index 9 (.string s) (.int .i64 3)).run Try.prog W = .ok (.int .u8 (ch s 3)) W := fun W => hix.out 3 (by omega) W
      have hcb := ch_bd s 3
      go_wp2_with fail
      refine (lower1 _ (ch s 3) hcb).mono ?_
      rintro x w2 ⟨rfl, hw⟩
      subst hw
      go_wp2_with fail
      refine (idxB _ (ch s 3) hcb).mono ?_
      rintro x w2 ⟨rfl, hw⟩
      subst hw
      clear hx hcb
      have hdb := dig_bd (ch s 3)
      have HKK : Hid (okB s 3 = decide (0 ≤ dig (ch s 3))) := hid (by unfold okB; rw [if_neg (by decide)])
      rw [H3.out] at hdb HKK
      rw [H3.out]
      by_cases hd : 0 ≤ d3
      · have HN := hid (okext HO.out (by rw [HKK.out]; simpa using hd))
        have hor := or0 d3 (by omega)
        have m1 := OM.out.cell 1; have n1 := OM.out.frozen 1
        have OM2 : Hid (Ob (wr.setCell ⟨w.heap.size + 1, 1, none⟩ (.int .u8 d3)) (w.heap.size + 1) 23 #[.int .u8 (d0 * 16 + d1), .int .u8 d3, .int .u8 0, .int .u8 0, .int .u8 0, .int .u8 0]) := hid (OM.out.set 1 (.int .u8 d3))
        have HB2 := hid (HB.out.setCell (p := ⟨w.heap.size + 1, 1, none⟩) (Or.inl (by simp)) (.int .u8 d3))
        go_wp2
        go_roundw
        case rel => exact ⟨rfl, .inr (.inr (.inr (.inr (.inl ⟨rfl, HN, OM2⟩)))), HB2⟩
        case measure => simp [RowKit.intOf]
      · have HN := hid (bad_at s 3 (by omega) (by rw [HKK.out]; simpa using hd))
        go_wp2_with (refine wp_storeOb rfl 23 _ _ rfl _ _ rfl rfl _ _ OR.out rfl (by kernel_rfl) (by simp [Value.oneCell']) (fun W5 hW5 => ?_); try simp only [Act.put, List.setIfInBounds_toArray, List.set_cons_zero, List.set_cons_succ]; have OR5 := hid (OR.out.eq_all hW5 rfl); have QB5 := hid (QB.out.eq_all hW5 (Or.inr (by simp))); clear hW5)
        have r0 := OR5.out.cell 0; have r1 := OR5.out.cell 1; have r2 := OR5.out.cell 2; have r3 := OR5.out.cell 3; have r4 := OR5.out.cell 4; have r5 := OR5.out.cell 5
        try rw [Exit.noGoto_ret]
        exact bodyPost_ret (v := .tuple #[.agg #[.int .u8 0, .int .u8 0, .int .u8 0, .int .u8 0, .int .u8 0, .int .u8 0], .int .i64 3]) (by simp [results, Try.results20, go_sem, *]) rfl (PEnd.no HN.out QB5.out)
    · skip
      obtain ⟨rfl, HO, OM⟩ := hh
      have hx : ∀ W, (Instr.index 9 (.string s) (.int .i64 4)).run Try.prog W = .ok (.int .u8 (ch s 4)) W := fun W => hix.out 4 (by omega) W
      have hcb := ch_bd s 4
      go_wp2_with fail
      refine (lower1 _ (ch s 4) hcb).mono ?_
      rintro x w2 ⟨rfl, hw⟩
      subst hw
      go_wp2_with fail
      refine (idxB _ (ch s 4) hcb).mono ?_
      rintro x w2 ⟨rfl, hw⟩
      subst hw
      clear hx hcb
      have hdb := dig_bd (ch s 4)
      have HKK : Hid (okB s 4 = decide (0 ≤ dig (ch s 4))) := hid (by unfold okB; rw [if_neg (by decide)])
      rw [H4.out] at hdb HKK
      rw [H4.out]
      by_cases hd : 0 ≤ d4
      · have HN := hid (okext HO.out (by rw [HKK.out]; simpa using hd))
        have hp := HO.out 3 (by omega)
        have hp2 : 0 ≤ d3 := by rw [← H3.out]; unfold okB at hp; rw [if_neg (by decide)] at hp; simpa using hp
        have hp3 : d3 ≤ 15 := by rw [← H3.out]; exact (dig_bd _).2
        have hor := or8 d3 d4 (by omega) (by omega)
        clear hp
        have m1 := OM.out.cell 1; have n1 := OM.out.frozen 1
        have OM2 : Hid (Ob (wr.setCell ⟨w.heap.size + 1, 1, none⟩ (.int .u8 (d3 * 16 + d4))) (w.heap.size + 1) 23 #[.int .u8 (d0 * 16 + d1), .int .u8 (d3 * 16 + d4), .int .u8 0, .int .u8 0, .int .u8 0, .int .u8 0]) := hid (OM.out.set 1 (.int .u8 (d3 * 16 + d4)))
        have HB2 := hid (HB.out.setCell (p := ⟨w.heap.size + 1, 1, none⟩) (Or.inl (by simp)) (.int .u8 (d3 * 16 + d4)))
        go_wp2
        go_roundw
        case rel => exact ⟨rfl, .inr (.inr (.inr (.inr (.inr (.inl ⟨rfl, HN, OM2⟩))))), HB2⟩
        case measure => simp [RowKit.intOf]
      · have HN := hid (bad_at s 4 (by omega) (by rw [HKK.out]; simpa using hd))
        go_wp2_with (refine wp_storeOb rfl 23 _ _ rfl _ _ rfl rfl _ _ OR.out rfl (by kernel_rfl) (by simp [Value.oneCell']) (fun W5 hW5 => ?_); try simp only [Act.put, List.setIfInBounds_toArray, List.set_cons_zero, List.set_cons_succ]; have OR5 := hid (OR.out.eq_all hW5 rfl); have QB5 := hid (QB.out.eq_all hW5 (Or.inr (by simp))); clear hW5)
        have r0 := OR5.out.cell 0; have r1 := OR5.out.cell 1; have r2 := OR5.out.cell 2; have r3 := OR5.out.cell 3; have r4 := OR5.out.cell 4; have r5 := OR5.out.cell 5
        try rw [Exit.noGoto_ret]
        exact bodyPost_ret (v := .tuple #[.agg #[.int .u8 0, .int .u8 0, .int .u8 0, .int .u8 0, .int .u8 0, .int .u8 0], .int .i64 3]) (by simp [results, Try.results20, go_sem, *]) rfl (PEnd.no HN.out QB5.out)
    · skip
      obtain ⟨rfl, HO, OM⟩ := hh
      have hx : ∀ W, (Instr.index 9 (.string s) (.int .i64 5)).run Try.prog W = .ok (.int .u8 (ch s 5)) W := fun W => hix.out 5 (by omega) W
      by_cases hc : ch s 5 = 58
      · have hk : okB s 5 = true := by unfold okB; rw [if_pos (by decide)]; simpa using hc
        have HN := hid (okext HO.out hk)
        rw [hc] at hx
        clear hk hc
        go_wp2
        go_roundw
        case rel => exact ⟨rfl, .inr (.inr (.inr (.inr (.inr (.inr (.inl ⟨rfl, HN, OM⟩)))))), HB⟩
        case measure => simp [RowKit.intOf]
      · have hk : okB s 5 = false := by unfold okB; rw [if_pos (by decide)]; simpa using hc
        have HN := hid (bad_at s 5 (by omega) hk)
        have hc2 : (ch s 5 == 58) = false := by simpa using hc
        have hc3 : (ch s 5 != 58) = true := by simpa using hc
        clear hk hc
        go_wp2_with (refine wp_storeOb rfl 23 _ _ rfl _ _ rfl rfl _ _ OR.out rfl (by kernel_rfl) (by simp [Value.oneCell']) (fun W5 hW5 => ?_); try simp only [Act.put, List.setIfInBounds_toArray, List.set_cons_zero, List.set_cons_succ]; have OR5 := hid (OR.out.eq_all hW5 rfl); have QB5 := hid (QB.out.eq_all hW5 (Or.inr (by simp))); clear hW5)
        have r0 := OR5.out.cell 0; have r1 := OR5.out.cell 1; have r2 := OR5.out.cell 2; have r3 := OR5.out.cell 3; have r4 := OR5.out.cell 4; have r5 := OR5.out.cell 5
        try rw [Exit.noGoto_ret]
        exact bodyPost_ret (v := .tuple #[.agg #[.int .u8 0, .int .u8 0, .int .u8 0, .int .u8 0, .int .u8 0, .int .u8 0], .int .i64 3]) (by simp [results, Try.results20, go_sem, *]) rfl (PEnd.no HN.out QB5.out)
    · skip
      obtain ⟨rfl, HO, OM⟩ := hh
      have hx : ∀ W, (Instr.index 9 (.string s) (.int .i64 6)).run Try.prog W = .ok (.int .u8 (ch s 6)) W := fun W => hix.out 6 (by omega) W
      have hcb := ch_bd s 6
      go_wp2_with fail
      refine (lower1 _ (ch s 6) hcb).mono ?_
      rintro x w2 ⟨rfl, hw⟩
      subst hw
      go_wp2_with fail
      refine (idxB _ (ch s 6) hcb).mono ?_
      rintro x w2 ⟨rfl, hw⟩
      subst hw
      clear hx hcb
      have hdb := dig_bd (ch s 6)
      have HKK : Hid (okB s 6 = decide (0 ≤ dig (ch s 6))) := hid (by unfold okB; rw [if_neg (by decide)])
      rw [H6.out] at hdb HKK
      rw [H6.out]
      by_cases hd : 0 ≤ d6
      · have HN := hid (okext HO.out (by rw [HKK.out]; simpa using hd))
        have hor := or0 d6 (by omega)
        have m2 := OM.out.cell 2; have n2 := OM.out.frozen 2
        have OM2 : Hid (Ob (wr.setCell ⟨w.heap.size + 1, 2, none⟩ (.int .u8 d6)) (w.heap.size + 1) 23 #[.int .u8 (d0 * 16 + d1), .int .u8 (d3 * 16 + d4), .int .u8 d6, .int .u8 0, .int .u8 0, .int .u8 0]) := hid (OM.out.set 2 (.int .u8 d6))
        have HB2 := hid (HB.out.setCell (p := ⟨w.heap.size + 1, 2, none⟩) (Or.inl (by simp)) (.int .u8 d6))
        go_wp2
        go_roundw
        case rel => exact ⟨rfl, .inr (.inr (.inr (.inr (.inr (.inr (.inr (.inl ⟨rfl, HN, OM2⟩))))))), HB2⟩
        case measure => simp [RowKit.intOf]
      · have HN := hid (bad_at s 6 (by omega) (by rw [HKK.out]; simpa using hd))
        go_wp2_with (refine wp_storeOb rfl 23 _ _ rfl _ _ rfl rfl _ _ OR.out rfl (by kernel_rfl) (by simp [Value.oneCell']) (fun W5 hW5 => ?_); try simp only [Act.put, List.setIfInBounds_toArray, List.set_cons_zero, List.set_cons_succ]; have OR5 := hid (OR.out.eq_all hW5 rfl); have QB5 := hid (QB.out.eq_all hW5 (Or.inr (by simp))); clear hW5)
        have r0 := OR5.out.cell 0; have r1 := OR5.out.cell 1; have r2 := OR5.out.cell 2; have r3 := OR5.out.cell 3; have r4 := OR5.out.cell 4; have r5 := OR5.out.cell 5
        try rw [Exit.noGoto_ret]
        exact bodyPost_ret (v := .tuple #[.agg #[.int .u8 0, .int .u8 0, .int .u8 0, .int .u8 0, .int .u8 0, .int .u8 0], .int .i64 3]) (by simp [results, Try.results20, go_sem, *]) rfl (PEnd.no HN.out QB5.out)
    · skip
      obtain ⟨rfl, HO, OM⟩ := hh
      have hx : ∀ W, (Instr.index 9 (.string s) (.int .i64 7)).run Try.prog W = .ok (.int .u8 (ch s 7)) W := fun W => hix.out 7 (by omega) W
      have hcb := ch_bd s 7
      go_wp2_with fail
      refine (lower1 _ (ch s 7) hcb).mono ?_
      rintro x w2 ⟨rfl, hw⟩
      subst hw
      go_wp2_with fail
      refine (idxB _ (ch s 7) hcb).mono ?_
      rintro x w2 ⟨rfl, hw⟩
      subst hw
      clear hx hcb
      have hdb := dig_bd (ch s 7)
      have HKK : Hid (okB s 7 = decide (0 ≤ dig (ch s 7))) := hid (by unfold okB; rw [if_neg (by decide)])
      rw [H7.out] at hdb HKK
      rw [H7.out]
      by_cases hd : 0 ≤ d7
      · have HN := hid (okext HO.out (by rw [HKK.out]; simpa using hd))
        have hp := HO.out 6 (by omega)
        have hp2 : 0 ≤ d6 := by rw [← H6.out]; unfold okB at hp; rw [if_neg (by decide)] at hp; simpa using hp
        have hp3 : d6 ≤ 15 := by rw [← H6.out]; exact (dig_bd _).2
        have hor := or8 d6 d7 (by omega) (by omega)
        clear hp
        have m2 := OM.out.cell 2; have n2 := OM.out.frozen 2
        have OM2 : Hid (Ob (wr.setCell ⟨w.heap.size + 1, 2, none⟩ (.int .u8 (d6 * 16 + d7))) (w.heap.size + 1) 23 #[.int .u8 (d0 * 16 + d1), .int .u8 (d3 * 16 + d4), .int .u8 (d6 * 16 + d7), .int .u8 0, .int .u8 0, .int .u8 0]) := hid (OM.out.set 2 (.int .u8 (d6 * 16 + d7)))
        have HB2 := hid (HB.out.setCell (p := ⟨w.heap.size + 1, 2, none⟩) (Or.inl (by simp)) (.int .u8 (d6 * 16 + d7)))
        go_wp2
        go_roundw
        case rel => exact ⟨rfl, .inr (.inr (.inr (.inr (.inr (.inr (.inr (.inr (.inl ⟨rfl, HN, OM2⟩)))))))), HB2⟩
        case measure => simp [RowKit.intOf]
      · have HN := hid (bad_at s 7 (by omega) (by rw [HKK.out]; simpa using hd))
        go_wp2_with (refine wp_storeOb rfl 23 _ _ rfl _ _ rfl rfl _ _ OR.out rfl (by kernel_rfl) (by simp [Value.oneCell']) (fun W5 hW5 => ?_); try simp only [Act.put, List.setIfInBounds_toArray, List.set_cons_zero, List.set_cons_succ]; have OR5 := hid (OR.out.eq_all hW5 rfl); have QB5 := hid (QB.out.eq_all hW5 (Or.inr (by simp))); clear hW5)
        have r0 := OR5.out.cell 0; have r1 := OR5.out.cell 1; have r2 := OR5.out.cell 2; have r3 := OR5.out.cell 3; have r4 := OR5.out.cell 4; have r5 := OR5.out.cell 5
        try rw [Exit.noGoto_ret]
        exact bodyPost_ret (v := .tuple #[.agg #[.int .u8 0, .int .u8 0, .int .u8 0, .int .u8 0, .int .u8 0, .int .u8 0], .int .i64 3]) (by simp [results, Try.results20, go_sem, *]) rfl (PEnd.no HN.out QB5.out)
    · skip
      obtain ⟨rfl, HO, OM⟩ := hh
      have hx : ∀ W, (Instr.index 9 (.string s) (.int .i64 8)).run Try.prog W = .ok (.int .u8 (ch s 8)) W := fun W => hix.out 8 (by omega) W
      by_cases hc : ch s 8 = 58
      · have hk : okB s 8 = true := by unfold okB; rw [if_pos (by decide)]; simpa using hc
        have HN := hid (okext HO.out hk)
        rw [hc] at hx
        clear hk hc
        go_wp2
        go_roundw
        case rel => exact ⟨rfl, .inr (.inr (.inr (.inr (.inr (.inr (.inr (.inr (.inr (.inl ⟨rfl, HN, OM⟩))))))))), HB⟩
        case measure => simp [RowKit.intOf]
      · have hk : okB s 8 = false := by unfold okB; rw [if_pos (by decide)]; simpa using hc
        have HN := hid (bad_at s 8 (by omega) hk)
        have hc2 : (ch s 8 == 58) = false := by simpa using hc
        have hc3 : (ch s 8 != 58) = true := by simpa using hc
        clear hk hc
        go_wp2_with (refine wp_storeOb rfl 23 _ _ rfl _ _ rfl rfl _ _ OR.out rfl (by kernel_rfl) (by simp [Value.oneCell']) (fun W5 hW5 => ?_); try simp only [Act.put, List.setIfInBounds_toArray, List.set_cons_zero, List.set_cons_succ]; have OR5 := hid (OR.out.eq_all hW5 rfl); have QB5 := hid (QB.out.eq_all hW5 (Or.inr (by simp))); clear hW5)
        have r0 := OR5.out.cell 0; have r1 := OR5.out.cell 1; have r2 := OR5.out.cell 2; have r3 := OR5.out.cell 3; have r4 := OR5.out.cell 4; have r5 := OR5.out.cell 5
        try rw [Exit.noGoto_ret]
        exact bodyPost_ret (v := .tuple #[.agg #[.int .u8 0, .int .u8 0, .int .u8 0, .int .u8 0, .int .u8 0, .int .u8 0], .int .i64 3]) (by simp [results, Try.results20, go_sem, *]) rfl (PEnd.no HN.out QB5.out)
    · skip
      obtain ⟨rfl, HO, OM⟩ := hh
      have hx : ∀ W, (Instr.index 9 (.string s) (.int .i64 9)).run Try.prog W = .ok (.int .u8 (ch s 9)) W := fun W => hix.out 9 (by omega) W
      have hcb := ch_bd s 9
      go_wp2_with fail
      refine (lower1 _ (ch s 9) hcb).mono ?_
      rintro x w2 ⟨rfl, hw⟩
      subst hw
      go_wp2_with fail
      refine (idxB _ (ch s 9) hcb).mono ?_
      rintro x w2 ⟨rfl, hw⟩
      subst hw
      clear hx hcb
      have hdb := dig_bd (ch s 9)
      have HKK : Hid (okB s 9 = decide (0 ≤ dig (ch s 9))) := hid (by unfold okB; rw [if_neg (by decide)])
      rw [H9.out] at hdb HKK
      rw [H9.out]
      by_cases hd : 0 ≤ d9
      · have HN := hid (okext HO.out (by rw [HKK.out]; simpa using hd))
        have hor := or0 d9 (by omega)
        have m3 := OM.out.cell 3; have n3 := OM.out.frozen 3
        have OM2 : Hid (Ob (wr.setCell ⟨w.heap.size + 1, 3, none⟩ (.int .u8 d9)) (w.heap.size + 1) 23 #[.int .u8 (d0 * 16 + d1), .int .u8 (d3 * 16 + d4), .int .u8 (d6 * 16 + d7), .int .u8 d9, .int .u8 0, .int .u8 0]) := hid (OM.out.set 3 (.int .u8 d9))
        have HB2 := hid (HB.out.setCell (p := ⟨w.heap.size + 1, 3, none⟩) (Or.inl (by simp)) (.int .u8 d9))
        go_wp2
        go_roundw
        case rel => exact ⟨rfl, .inr (.inr (.inr (.inr (.inr (.inr (.inr (.inr (.inr (.inr (.inl ⟨rfl, HN, OM2⟩)))))))))), HB2⟩
        case measure => simp [RowKit.intOf]
      · have HN := hid (bad_at s 9 (by omega) (by rw [HKK.out]; simpa using hd))
        go_wp2_with (refine wp_storeOb rfl 23 _ _ rfl _ _ rfl rfl _ _ OR.out rfl (by kernel_rfl) (by simp [Value.oneCell']) (fun W5 hW5 => ?_); try simp only [Act.put, List.setIfInBounds_toArray, List.set_cons_zero, List.set_cons_succ]; have OR5 := hid (OR.out.eq_all hW5 rfl); have QB5 := hid (QB.out.eq_all hW5 (Or.inr (by simp))); clear hW5)
        have r0 := OR5.out.cell 0; have r1 := OR5.out.cell 1; have r2 := OR5.out.cell 2; have r3 := OR5.out.cell 3; have r4 := OR5.out.cell 4; have r5 := OR5.out.cell 5
        try rw [Exit.noGoto_ret]
        exact bodyPost_ret (v := .tuple #[.agg #[.int .u8 0, .int .u8 0, .int .u8 0, .int .u8 0, .int .u8 0, .int .u8 0], .int .i64 3]) (by simp [results, Try.results20, go_sem, *]) rfl (PEnd.no HN.out QB5.out)
    · skip
      obtain ⟨rfl, HO, OM⟩ := hh
      have hx : ∀ W, (Instr.index 9 (.string s) (.int .i64 10)).run Try.prog W = .ok (.int .u8 (ch s 10)) W := fun W => hix.out 10 (by omega) W
      have hcb := ch_bd s 10
      go_wp2_with fail
      refine (lower1 _ (ch s 10) hcb).mono ?_
      rintro x w2 ⟨rfl, hw⟩
      subst hw
      go_wp2_with fail
      refine (idxB _ (ch s 10) hcb).mono ?_
      rintro x w2 ⟨rfl, hw⟩
      subst hw
      clear hx hcb
      have hdb := dig_bd (ch s 10)
      have HKK : Hid (okB s 10 = decide (0 ≤ dig (ch s 10))) := hid (by unfold okB; rw [if_neg (by decide)])
      rw [H10.out] at hdb HKK
      rw [H10.out]
      by_cases hd : 0 ≤ d10
      · have HN := hid (okext HO.out (by rw [HKK.out]; simpa using hd))
        have hp := HO.out 9 (by omega)
        have hp2 : 0 ≤ d9 := by rw [← H9.out]; unfold okB at hp; rw [if_neg (by decide)] at hp; simpa using hp
        have hp3 : d9 ≤ 15 := by rw [← H9.out]; exact (dig_bd _).2
        have hor := or8 d9 d10 (by omega) (by omega)
        clear hp
        have m3 := OM.out.cell 3; have n3 := OM.out.frozen 3
        have OM2 : Hid (Ob (wr.setCell ⟨w.heap.size + 1, 3, none⟩ (.int .u8 (d9 * 16 + d10))) (w.heap.size + 1) 23 #[.int .u8 (d0 * 16 + d1), .int .u8 (d3 * 16 + d4), .int .u8 (d6 * 16 + d7), .int .u8 (d9 * 16 + d10), .int .u8 0, .int .u8 0]) := hid (OM.out.set 3 (.int .u8 (d9 * 16 + d10)))
        have HB2 := hid (HB.out.setCell (p := ⟨w.heap.size + 1, 3, none⟩) (Or.inl (by simp)) (.int .u8 (d9 * 16 + d10)))
        go_wp2
        go_roundw
        case rel => exact ⟨rfl, .inr (.inr (.inr (.inr (.inr (.inr (.inr (.inr (.inr (.inr (.inr (.inl ⟨rfl, HN, OM2⟩))))))))))), HB2⟩
        case measure => simp [RowKit.intOf]
      · have HN := hid (bad_at s 10 (by omega) (by rw [HKK.out]; simpa using hd))
        go_wp2_with (refine wp_storeOb rfl 23 _ _ rfl _ _ rfl rfl _ _ OR.out rfl (by kernel_rfl) (by simp [Value.oneCell']) (fun W5 hW5 => ?_); try simp only [Act.put, List.setIfInBounds_toArray, List.set_cons_zero, List.set_cons_succ]; have OR5 := hid (OR.out.eq_all hW5 rfl); have QB5 := hid (QB.out.eq_all hW5 (Or.inr (by simp))); clear hW5)
        have r0 := OR5.out.cell 0; have r1 := OR5.out.cell 1; have r2 := OR5.out.cell 2; have r3 := OR5.out.cell 3; have r4 := OR5.out.cell 4; have r5 := OR5.out.cell 5
        try rw [Exit.noGoto_ret]
        exact bodyPost_ret (v := .tuple #[.agg #[.int .u8 0, .int .u8 0, .int .u8 0, .int .u8 0, .int .u8 0, .int .u8 0], .int .i64 3]) (by simp [results, Try.results20, go_sem, *]) rfl (PEnd.no HN.out QB5.out)
    · skip
      obtain ⟨rfl, HO, OM⟩ := hh
      have hx : ∀ W, (Instr.index 9 (.string s) (.int .i64 11)).run Try.prog W = .ok (.int .u8 (ch s 11)) W := fun W => hix.out 11 (by omega) W
      by_cases hc : ch s 11 = 58
      · have hk : okB s 11 = true := by unfold okB; rw [if_pos (by decide)]; simpa using hc
        have HN := hid (okext HO.out hk)
        rw [hc] at hx
        clear hk hc
        go_wp2
        go_roundw
        case rel => exact ⟨rfl, .inr (.inr (.inr (.inr (.inr (.inr (.inr (.inr (.inr (.inr (.inr (.inr (.inl ⟨rfl, HN, OM⟩)))))))))))), HB⟩
        case measure => simp [RowKit.intOf]
      · have hk : okB s 11 = false := by unfold okB; rw [if_pos (by decide)]; simpa using hc
        have HN := hid (bad_at s 11 (by omega) hk)
        have hc2 : (ch s 11 == 58) = false := by simpa using hc
        have hc3 : (ch s 11 != 58) = true := by simpa using hc
        clear hk hc
        go_wp2_with (refine wp_storeOb rfl 23 _ _ rfl _ _ rfl rfl _ _ OR.out rfl (by kernel_rfl) (by simp [Value.oneCell']) (fun W5 hW5 => ?_); try simp only [Act.put, List.setIfInBounds_toArray, List.set_cons_zero, List.set_cons_succ]; have OR5 := hid (OR.out.eq_all hW5 rfl); have QB5 := hid (QB.out.eq_all hW5 (Or.inr (by simp))); clear hW5)
        have r0 := OR5.out.cell 0; have r1 := OR5.out.cell 1; have r2 := OR5.out.cell 2; have r3 := OR5.out.cell 3; have r4 := OR5.out.cell 4; have r5 := OR5.out.cell 5
        try rw [Exit.noGoto_ret]
        exact bodyPost_ret (v := .tuple #[.agg #[.int .u8 0, .int .u8 0, .int .u8 0, .int .u8 0, .int .u8 0, .int .u8 0], .int .i64 3]) (by simp [results, Try.results20, go_sem, *]) rfl (PEnd.no HN.out QB5.out)
    · skip
      obtain ⟨rfl, HO, OM⟩ := hh
      have hx : ∀ W, (Instr.index 9 (.string s) (.int .i64 12)).run Try.prog W = .ok (.int .u8 (ch s 12)) W := fun W => hix.out 12 (by omega) W
      have hcb := ch_bd s 12
      go_wp2_with fail
      refine (lower1 _ (ch s 12) hcb).mono ?_
      rintro x w2 ⟨rfl, hw⟩
      subst hw
      go_wp2_with fail
      refine (idxB _ (ch s 12) hcb).mono ?_
      rintro x w2 ⟨rfl, hw⟩
      subst hw
      clear hx hcb
      have hdb := dig_bd (ch s 12)
      have HKK : Hid (okB s 12 = decide (0 ≤ dig (ch s 12))) := hid (by unfold okB; rw [if_neg (by decide)])
      rw [H12.out] at hdb HKK
      rw [H12.out]
      by_cases hd : 0 ≤ d12
      · have HN := hid (okext HO.out (by rw [HKK.out]; simpa using hd))
        have hor := or0 d12 (by omega)
        have m4 := OM.out.cell 4; have n4 := OM.out.frozen 4
        have OM2 : Hid (Ob (wr.setCell ⟨w.heap.size + 1, 4, none⟩ (.int .u8 d12)) (w.heap.size + 1) 23 #[.int .u8 (d0 * 16 + d1), .int .u8 (d3 * 16 + d4), .int .u8 (d6 * 16 + d7), .int .u8 (d9 * 16 + d10), .int .u8 d12, .int .u8 0]) := hid (OM.out.set 4 (.int .u8 d12))
        have HB2 := hid (HB.out.setCell (p := ⟨w.heap.size + 1, 4, none⟩) (Or.inl (by simp)) (.int .u8 d12))
        go_wp2
        go_roundw
        case rel => exact ⟨rfl, .inr (.inr (.inr (.inr (.inr (.inr (.inr (.inr (.inr (.inr (.inr (.inr (.inr (.inl ⟨rfl, HN, OM2⟩))))))))))))), HB2⟩
        case measure => simp [RowKit.intOf]
      · have HN := hid (bad_at s 12 (by omega) (by rw [HKK.out]; simpa using hd))
        go_wp2_with (refine wp_storeOb rfl 23 _ _ rfl _ _ rfl rfl _ _ OR.out rfl (by kernel_rfl) (by simp [Value.oneCell']) (fun W5 hW5 => ?_); try simp only [Act.put, List.setIfInBounds_toArray, List.set_cons_zero, List.set_cons_succ]; have OR5 := hid (OR.out.eq_all hW5 rfl); have QB5 := hid (QB.out.eq_all hW5 (Or.inr (by simp))); clear hW5)
        have r0 := OR5.out.cell 0; have r1 := OR5.out.cell 1; have r2 := OR5.out.cell 2; have r3 := OR5.out.cell 3; have r4 := OR5.out.cell 4; have r5 := OR5.out.cell 5
        try rw [Exit.noGoto_ret]
        exact bodyPost_ret (v := .tuple #[.agg #[.int .u8 0, .int .u8 0, .int .u8 0, .int .u8 0, .int .u8 0, .int .u8 0], .int .i64 3]) (by simp [results, Try.results20, go_sem, *]) rfl (PEnd.no HN.out QB5.out)
    · skip
      obtain ⟨rfl, HO, OM⟩ := hh
      have hx : ∀ W, (Instr.index 9 (.string s) (.int .i64 13)).run Try.prog W = .ok (.int .u8 (ch s 13)) W := fun W => hix.out 13 (by omega) W
      have hcb := ch_bd s 13
      go_wp2_with fail
      refine (lower1 _ (ch s 13) hcb).mono ?_
      rintro x w2 ⟨rfl, hw⟩
      subst hw
      go_wp2_with fail
      refine (idxB _ (ch s 13) hcb).mono ?_
      rintro x w2 ⟨rfl, hw⟩
      subst hw
      clear hx hcb
      have hdb := dig_bd (ch s 13)
      have HKK : Hid (okB s 13 = decide (0 ≤ dig (ch s 13))) := hid (by unfold okB; rw [if_neg (by decide)])
      rw [H13.out] at hdb HKK
      rw [H13.out]
      by_cases hd : 0 ≤ d13
      · have HN := hid (okext HO.out (by rw [HKK.out]; simpa using hd))
        have hp := HO.out 12 (by omega)
        have hp2 : 0 ≤ d12 := by rw [← H12.out]; unfold okB at hp; rw [if_neg (by decide)] at hp; simpa using hp
        have hp3 : d12 ≤ 15 := by rw [← H12.out]; exact (dig_bd _).2
        have hor := or8 d12 d13 (by omega) (by omega)
        clear hp
        have m4 := OM.out.cell 4; have n4 := OM.out.frozen 4
        have OM2 : Hid (Ob (wr.setCell ⟨w.heap.size + 1, 4, none⟩ (.int .u8 (d12 * 16 + d13))) (w.heap.size + 1) 23 #[.int .u8 (d0 * 16 + d1), .int .u8 (d3 * 16 + d4), .int .u8 (d6 * 16 + d7), .int .u8 (d9 * 16 + d10), .int .u8 (d12 * 16 + d13), .int .u8 0]) := hid (OM.out.set 4 (.int .u8 (d12 * 16 + d13)))
        have HB2 := hid (HB.out.setCell (p := ⟨w.heap.size + 1, 4, none⟩) (Or.inl (by simp)) (.int .u8 (d12 * 16 + d13)))
        go_wp2
        go_roundw
        case rel => exact ⟨rfl, .inr (.inr (.inr (.inr (.inr (.inr (.inr (.inr (.inr (.inr (.inr (.inr (.inr (.inr (.inl ⟨rfl, HN, OM2⟩)))))))))))))), HB2⟩
        case measure => simp [RowKit.intOf]
      · have HN := hid (bad_at s 13 (by omega) (by rw [HKK.out]; simpa using hd))
        go_wp2_with (refine wp_storeOb rfl 23 _ _ rfl _ _ rfl rfl _ _ OR.out rfl (by kernel_rfl) (by simp [Value.oneCell']) (fun W5 hW5 => ?_); try simp only [Act.put, List.setIfInBounds_toArray, List.set_cons_zero, List.set_cons_succ]; have OR5 := hid (OR.out.eq_all hW5 rfl); have QB5 := hid (QB.out.eq_all hW5 (Or.inr (by simp))); clear hW5)
        have r0 := OR5.out.cell 0; have r1 := OR5.out.cell 1; have r2 := OR5.out.cell 2; have r3 := OR5.out.cell 3; have r4 := OR5.out.cell 4; have r5 := OR5.out.cell 5
        try rw [Exit.noGoto_ret]
        exact bodyPost_ret (v := .tuple #[.agg #[.int .u8 0, .int .u8 0, .int .u8 0, .int .u8 0, .int .u8 0, .int .u8 0], .int .i64 3]) (by simp [results, Try.results20, go_sem, *]) rfl (PEnd.no HN.out QB5.out)
    · skip
      obtain ⟨rfl, HO, OM⟩ := hh
      have hx : ∀ W, (Instr.index 9 (.string s) (.int .i64 14)).run Try.prog W = .ok (.int .u8 (ch s 14)) W := fun W => hix.out 14 (by omega) W
      by_cases hc : ch s 14 = 58
      · have hk : okB s 14 = true := by unfold okB; rw [if_pos (by decide)]; simpa using hc
        have HN := hid (okext HO.out hk)
        rw [hc] at hx
        clear hk hc
        go_wp2
        go_roundw
        case rel => exact ⟨rfl, .inr (.inr (.inr (.inr (.inr (.inr (.inr (.inr (.inr (.inr (.inr (.inr (.inr (.inr (.inr (.inl ⟨rfl, HN, OM⟩))))))))))))))), HB⟩
        case measure => simp [RowKit.intOf]
      · have hk : okB s 14 = false := by unfold okB; rw [if_pos (by decide)]; simpa using hc
        have HN := hid (bad_at s 14 (by omega) hk)
        have hc2 : (ch s 14 == 58) = false := by simpa using hc
        have hc3 : (ch s 14 != 58) = true := by simpa using hc
        clear hk hc
        go_wp2_with (refine wp_storeOb rfl 23 _ _ rfl _ _ rfl rfl _ _ OR.out rfl (by kernel_rfl) (by simp [Value.oneCell']) (fun W5 hW5 => ?_); try simp only [Act.put, List.setIfInBounds_toArray, List.set_cons_zero, List.set_cons_succ]; have OR5 := hid (OR.out.eq_all hW5 rfl); have QB5 := hid (QB.out.eq_all hW5 (Or.inr (by simp))); clear hW5)
        have r0 := OR5.out.cell 0; have r1 := OR5.out.cell 1; have r2 := OR5.out.cell 2; have r3 := OR5.out.cell 3; have r4 := OR5.out.cell 4; have r5 := OR5.out.cell 5
        try rw [Exit.noGoto_ret]
        exact bodyPost_ret (v := .tuple #[.agg #[.int .u8 0, .int .u8 0, .int .u8 0, .int .u8 0, .int .u8 0, .int .u8 0], .int .i64 3]) (by simp [results, Try.results20, go_sem, *]) rfl (PEnd.no HN.out QB5.out)
    · skip
      obtain ⟨rfl, HO, OM⟩ := hh
      have hx : ∀ W, (Instr.index 9 (.string s) (.int .i64 15)).run Try.prog W = .ok (.int .u8 (ch s 15)) W := fun W => hix.out 15 (by omega) W
      have hcb := ch_bd s 15
      go_wp2_with fail
      refine (lower1 _ (ch s 15) hcb).mono ?_
      rintro x w2 ⟨rfl, hw⟩
      subst hw
      go_wp2_with fail
      refine (idxB _ (ch s 15) hcb).mono ?_
      rintro x w2 ⟨rfl, hw⟩
      subst hw
      clear hx hcb
      have hdb := dig_bd (ch s 15)
      have HKK : Hid (okB s 15 = decide (0 ≤ dig (ch s 15))) := hid (by unfold okB; rw [if_neg (by decide)])
      rw [H15.out] at hdb HKK
      rw [H15.out]
      by_cases hd : 0 ≤ d15
      · have HN := hid (okext HO.out (by rw [HKK.out]; simpa using hd))
        have hor := or0 d15 (by omega)
        have m5 := OM.out.cell 5; have n5 := OM.out.frozen 5
        have OM2 : Hid (Ob (wr.setCell ⟨w.heap.size + 1, 5, none⟩ (.int .u8 d15)) (w.heap.size + 1) 23 #[.int .u8 (d0 * 16 + d1), .int .u8 (d3 * 16 + d4), .int .u8 (d6 * 16 + d7), .int .u8 (d9 * 16 + d10), .int .u8 (d12 * 16 + d13), .int .u8 d15]) := hid (OM.out.set 5 (.int .u8 d15))
        have HB2 := hid (HB.out.setCell (p := ⟨w.heap.size + 1, 5, none⟩) (Or.inl (by simp)) (.int .u8 d15))
        go_wp2
        go_roundw
        case rel => exact ⟨rfl, .inr (.inr (.inr (.inr (.inr (.inr (.inr (.inr (.inr (.inr (.inr (.inr (.inr (.inr (.inr (.inr (.inl ⟨rfl, HN, OM2⟩)))))))))))))))), HB2⟩
        case measure => simp [RowKit.intOf]
      · have HN := hid (bad_at s 15 (by omega) (by rw [HKK.out]; simpa using hd))
        go_wp2_with (refine wp_storeOb rfl 23 _ _ rfl _ _ rfl rfl _ _ OR.out rfl (by kernel_rfl) (by simp [Value.oneCell']) (fun W5 hW5 => ?_); try simp only [Act.put, List.setIfInBounds_toArray, List.set_cons_zero, List.set_cons_succ]; have OR5 := hid (OR.out.eq_all hW5 rfl); have QB5 := hid (QB.out.eq_all hW5 (Or.inr (by simp))); clear hW5)
        have r0 := OR5.out.cell 0; have r1 := OR5.out.cell 1; have r2 := OR5.out.cell 2; have r3 := OR5.out.cell 3; have r4 := OR5.out.cell 4; have r5 := OR5.out.cell 5
        try rw [Exit.noGoto_ret]
        exact bodyPost_ret (v := .tuple #[.agg #[.int .u8 0, .int .u8 0, .int .u8 0, .int .u8 0, .int .u8 0, .int .u8 0], .int .i64 3]) (by simp [results, Try.results20, go_sem, *]) rfl (PEnd.no HN.out QB5.out)
    · skip
      obtain ⟨rfl, HO, OM⟩ := hh
      have hx : ∀ W, (Instr.index 9 (.string s) (.int .i64 16)).run Try.prog W = .ok (.int .u8 (ch s 16)) W := fun W => hix.out 16 (by omega) W
      have hcb := ch_bd s 16
      go_wp2_with fail
      refine (lower1 _ (ch s 16) hcb).mono ?_
      rintro x w2 ⟨rfl, hw⟩
      subst hw
      go_wp2_with fail
      refine (idxB _ (ch s 16) hcb).mono ?_
      rintro x w2 ⟨rfl, hw⟩
      subst hw
      clear hx hcb
      have hdb := dig_bd (ch s 16)
      have HKK : Hid (okB s 16 = decide (0 ≤ dig (ch s 16))) := hid (by unfold okB; rw [if_neg (by decide)])
      rw [H16.out] at hdb HKK
      rw [H16.out]
      by_cases hd : 0 ≤ d16
      · have HN := hid (okext HO.out (by rw [HKK.out]; simpa using hd))
        have hp := HO.out 15 (by omega)
        have hp2 : 0 ≤ d15 := by rw [← H15.out]; unfold okB at hp; rw [if_neg (by decide)] at hp; simpa using hp
        have hp3 : d15 ≤ 15 := by rw [← H15.out]; exact (dig_bd _).2
        have hor := or8 d15 d16 (by omega) (by omega)
        clear hp
        have m5 := OM.out.cell 5; have n5 := OM.out.frozen 5
        have OM2 : Hid (Ob (wr.setCell ⟨w.heap.size + 1, 5, none⟩ (.int .u8 (d15 * 16 + d16))) (w.heap.size + 1) 23 #[.int .u8 (d0 * 16 + d1), .int .u8 (d3 * 16 + d4), .int .u8 (d6 * 16 + d7), .int .u8 (d9 * 16 + d10), .int .u8 (d12 * 16 + d13), .int .u8 (d15 * 16 + d16)]) := hid (OM.out.set 5 (.int .u8 (d15 * 16 + d16)))
        have HB2 := hid (HB.out.setCell (p := ⟨w.heap.size + 1, 5, none⟩) (Or.inl (by simp)) (.int .u8 (d15 * 16 + d16)))
        go_wp2
        go_roundw
        case rel => exact ⟨rfl, .inr (.inr (.inr (.inr (.inr (.inr (.inr (.inr (.inr (.inr (.inr (.inr (.inr (.inr (.inr (.inr (.inr (⟨rfl, HN, OM2⟩))))))))))))))))), HB2⟩
        case measure => simp [RowKit.intOf]
      · have HN := hid (bad_at s 16 (by omega) (by rw [HKK.out]; simpa using hd))
        go_wp2_with (refine wp_storeOb rfl 23 _ _ rfl _ _ rfl rfl _ _ OR.out rfl (by kernel_rfl) (by simp [Value.oneCell']) (fun W5 hW5 => ?_); try simp only [Act.put, List.setIfInBounds_toArray, List.set_cons_zero, List.set_cons_succ]; have OR5 := hid (OR.out.eq_all hW5 rfl); have QB5 := hid (QB.out.eq_all hW5 (Or.inr (by simp))); clear hW5)
        have r0 := OR5.out.cell 0; have r1 := OR5.out.cell 1; have r2 := OR5.out.cell 2; have r3 := OR5.out.cell 3; have r4 := OR5.out.cell 4; have r5 := OR5.out.cell 5
        try rw [Exit.noGoto_ret]
        exact bodyPost_ret (v := .tuple #[.agg #[.int .u8 0, .int .u8 0, .int .u8 0, .int .u8 0, .int .u8 0, .int .u8 0], .int .i64 3]) (by simp [results, Try.results20, go_sem, *]) rfl (PEnd.no HN.out QB5.out)
    · skip
      obtain ⟨rfl, HO, OM⟩ := hh
      have HG := hid (good_all s hs17 HO.out)
      have HPM : Hid (pm s = #[.int .u8 (d0 * 16 + d1), .int .u8 (d3 * 16 + d4), .int .u8 (d6 * 16 + d7), .int .u8 (d9 * 16 + d10), .int .u8 (d12 * 16 + d13), .int .u8 (d15 * 16 + d16)]) := hid (by unfold pm; rw [if_pos HG.out, H0.out, H1.out, H3.out, H4.out, H6.out, H7.out, H9.out, H10.out, H12.out, H13.out, H15.out, H16.out])
      have HPE : Hid (pe s = 0) := hid (by unfold pe; rw [if_pos HG.out])
      go_wp2_with (first
        | (refine wp_loadOb rfl 23 _ rfl (w.heap.size + 1) rfl _ 23 OM.out Try.underlying23 rfl (by kernel_rfl) ?_; try simp only [Act.put, List.setIfInBounds_toArray, List.set_cons_zero, List.set_cons_succ])
        | (refine wp_storeOb rfl 23 _ _ rfl _ _ rfl rfl _ _ OR.out rfl (by kernel_rfl) (by simp [Value.oneCell']) (fun W5 hW5 => ?_); try simp only [Act.put, List.setIfInBounds_toArray, List.set_cons_zero, List.set_cons_succ]; have OR5 := hid (OR.out.eq_all hW5 rfl); have QB5 := hid (QB.out.eq_all hW5 (Or.inr (by simp))); clear hW5))
      have r0 := OR5.out.cell 0; have r1 := OR5.out.cell 1; have r2 := OR5.out.cell 2; have r3 := OR5.out.cell 3; have r4 := OR5.out.cell 4; have r5 := OR5.out.cell 5
      try rw [Exit.noGoto_ret]
      exact bodyPost_ret (v := .tuple #[.agg #[.int .u8 (d0 * 16 + d1), .int .u8 (d3 * 16 + d4), .int .u8 (d6 * 16 + d7), .int .u8 (d9 * 16 + d10), .int .u8 (d12 * 16 + d13), .int .u8 (d15 * 16 + d16)], .int .i64 0]) (by simp [results, Try.results20, go_sem, *]) rfl ⟨by rw [HPM.out, HPE.out], QB5.out⟩
theorem parse1 (w : World) (s : ByteArray) : Calls Try.prog 20 #[.string s] w (PEnd w s) := by
  by_cases h : s.size = 17
  · exact parse17 w s h
  · exact parseShort w s h
end Go.Proofs.Ytiihhngddmboaaa.eth
