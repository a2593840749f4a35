/-
  Chapter 6 (ipv4): what is read of any bytes. Conditions: none but those typed.
-/
import Derived.Test.YtaoeflngdlgboaaDoorIpW
import Derived.Test.YtaoeflngdlgboaaDoorRef6
namespace Go.Proofs.YtaoeflngdlgboaaDoor.ip
set_option linter.unusedVariables false
set_option linter.unusedSimpArgs false
open Go.ChangeShapes Go.WideShapes Go.ChangeAt Go.RowKit Go.IntWalk Go.Lib
theorem take1 (l : List Int) (i : Nat) (h : i < l.length) : (l.drop i).take 1 = [l.getD i 0] := by
  rw [List.drop_eq_getElem_cons h, List.take_succ_cons, List.take_zero, List.getD_eq_getElem?_getD, List.getElem?_eq_getElem h]; rfl
theorem takeS (l : List Int) (i k : Nat) (h : i < l.length) : (l.drop i).take (k + 1) = l.getD i 0 :: (l.drop (i + 1)).take k := by
  rw [List.drop_eq_getElem_cons h, List.take_succ_cons, List.getD_eq_getElem?_getD, List.getElem?_eq_getElem h]; rfl
theorem num_get2 (l : List Int) (i : Nat) (h : i + 2 ≤ l.length) : rdr.num ((l.drop i).take 2) = ref.get2 l i := by
  rw [takeS l i 1 (by omega), take1 l (i + 1) (by omega)]; simp [rdr.num, ref.get2]
theorem num_get4 (l : List Int) (i : Nat) (h : i + 4 ≤ l.length) : rdr.num ((l.drop i).take 4) = ref.get4 l i := by
  rw [takeS l i 3 (by omega), takeS l (i + 1) 2 (by omega), takeS l (i + 1 + 1) 1 (by omega), take1 l (i + 1 + 1 + 1) (by omega)]; simp [rdr.num, ref.get4, Nat.add_assoc]; omega
theorem num_one (l : List Int) (i : Nat) (h : i < l.length) : rdr.num ((l.drop i).take 1) = l.getD i 0 := by
  rw [take1 l i h]; simp [rdr.num]
theorem getD_take (l : List Int) (k i : Nat) (h : i < k) : (l.take k).getD i 0 = l.getD i 0 := by
  rw [List.getD_eq_getElem?_getD, List.getD_eq_getElem?_getD, List.getElem?_take, if_pos h]
theorem get2_take (l : List Int) (k i : Nat) (h : i + 2 ≤ k) : ref.get2 (l.take k) i = ref.get2 l i := by
  unfold ref.get2; rw [getD_take l k i (by omega), getD_take l k (i + 1) (by omega)]
theorem get4_take (l : List Int) (k i : Nat) (h : i + 4 ≤ k) : ref.get4 (l.take k) i = ref.get4 l i := by
  unfold ref.get4; rw [getD_take l k i (by omega), getD_take l k (i + 1) (by omega), getD_take l k (i + 2) (by omega), getD_take l k (i + 3) (by omega)]
/-- Its options and its data. -/
def optD (l : List Int) : List Int := (l.take (hd l).toNat).drop 20
def datD (l : List Int) : List Int := (l.take (tot l).toNat).drop (hd l).toNat
/-- Why bytes are refused behind their sum. -/
def late (l : List Int) : Int := if (bits .and .i64 (ref.get2 l 6) 32768 != 0) = true then 3 else if okO (optD l) = false then 3 else if 65535 - hd l < ref.get2 l 6 % 8192 * 8 + tot l - hd l then 5 else 0
def dEp (l : List Int) : Int := if early l ≠ 0 then early l else late l
theorem early0 {l : List Int} (h : early l = 0) : 20 ≤ l.length ∧ l.getD 0 0 / 16 = 4 ∧ 20 ≤ hd l ∧ hd l ≤ l.length ∧ hd l ≤ tot l ∧ tot l ≤ l.length ∧ oct.sumF (l.take (hd l).toNat) = 0 := by
  unfold early at h
  split at h
  · omega
  · split at h
    · omega
    · split at h
      · omega
      · split at h
        · omega
        · split at h
          · omega
          · split at h
            · omega
            · split at h
              · omega
              · rename_i a1 a2 a3 a4 a5 a6 a7
                exact ⟨by omega, Decidable.not_not.1 a2, by omega, by omega, by omega, by omega, Decidable.not_not.1 a7⟩
theorem get2_bd (l : List Int) (i : Nat) (hw : ∀ j, j < i + 2 → 0 ≤ l.getD j 0 ∧ l.getD j 0 ≤ 255) : 0 ≤ ref.get2 l i ∧ ref.get2 l i ≤ 65535 := by
  have a := hw i (by omega); have b := hw (i + 1) (by omega)
  unfold ref.get2; omega
theorem decErr (w : World) (A : Option Addr) (n c : Nat) (l : List Int) (hl : Rd .u8 w A n l) (hnc : n ≤ c) (hcm : c ≤ maxLen) (hn : n ≤ 70000) (hne : dEp l ≠ 0) :
    Calls Tryd.prog 18 #[.slice A n c] w fun x w' => x = .returned (.tuple #[.agg #[.int .i64 0, .int .i64 0, .bool false, .bool false, .int .i64 0, .int .i64 0, .int .i64 0, .int .u32 0, .int .u32 0, .slice none 0 0, .slice none 0 0], .int .i64 (dEp l)]) ∧ Only [] w w' := by
  by_cases he : early l = 0
  · have hd1 : dEp l = late l := by unfold dEp; rw [if_neg (fun h => h he)]
    rw [hd1] at hne ⊢
    obtain ⟨a1, a2, a3, a4, a5, a6, a7⟩ := early0 he
    have hll := hl.len
    have eh : hd l = l.getD 0 0 % 16 * 4 := rfl
    have et : tot l = l.getD 2 0 * 256 + l.getD 3 0 := rfl
    obtain ⟨b, off, rfl, hb, hc⟩ := (hl.alloc (.cells #[.int .i64 0, .int .i64 0, .bool false, .bool false, .int .i64 0, .int .i64 0, .int .i64 0, .int .u32 0, .int .u32 0, .slice none 0 0, .slice none 0 0] 26)).at_ (by omega)
    have c0 := hc 0 (by omega); rw [Nat.add_zero] at c0
    have c2 := hc 2 (by omega); have c3 := hc 3 (by omega)
    have w0 := u8Bd (hl.getD_wf 0 (by omega)); have w2 := u8Bd (hl.getD_wf 2 (by omega)); have w3 := u8Bd (hl.getD_wf 3 (by omega))
    have hq := u8_and15 (l.getD 0 0) w0
    have orr : bits .or .i64 (l.getD 2 0 * 256) (l.getD 3 0) = (((tot l).toNat : Nat) : Int) := by
      have h9 : bits .or .i64 (l.getD 2 0 * 256) (l.getD 3 0) = l.getD 2 0 * 256 + l.getD 3 0 := i64_or_mul _ _ 8 256 rfl (by omega) (by omega) (by omega) (by omega)
      rw [h9]; omega
    have hkl : (l.take (hd l).toNat).length = (hd l).toNat := by rw [List.length_take]; omega
    have f1 : rdr.num (((l.take (hd l).toNat).drop 1).take 1) = l.getD 1 0 := by rw [num_one _ _ (by omega), getD_take _ _ _ (by omega)]
    have f2 : rdr.num (((l.take (hd l).toNat).drop 4).take 2) = ref.get2 l 4 := by rw [num_get2 _ _ (by omega), get2_take _ _ _ (by omega)]
    have f3 : rdr.num (((l.take (hd l).toNat).drop 6).take 2) = ref.get2 l 6 := by rw [num_get2 _ _ (by omega), get2_take _ _ _ (by omega)]
    have f4 : rdr.num (((l.take (hd l).toNat).drop 8).take 1) = l.getD 8 0 := by rw [num_one _ _ (by omega), getD_take _ _ _ (by omega)]
    have f5 : rdr.num (((l.take (hd l).toNat).drop 9).take 1) = l.getD 9 0 := by rw [num_one _ _ (by omega), getD_take _ _ _ (by omega)]
    have f6 : rdr.num (((l.take (hd l).toNat).drop 12).take 4) = ref.get4 l 12 := by rw [num_get4 _ _ (by omega), get4_take _ _ _ (by omega)]
    have f7 : rdr.num (((l.take (hd l).toNat).drop 16).take 4) = ref.get4 l 16 := by rw [num_get4 _ _ (by omega), get4_take _ _ _ (by omega)]
    have f8 : bits .and .i64 (ref.get2 l 6) 8191 = ref.get2 l 6 % 8192 := i64_mask _ 13 8191 (by decide) (by decide)
    have hof := ofs_okO (optD l)
    by_cases hb1 : (bits .and .i64 (ref.get2 l 6) 32768 != 0) = true
    · rw [show late l = 3 from by unfold late; rw [if_pos hb1]]
      exact dN1 w b off n c (l.getD 0 0) (l.getD 2 0) (l.getD 3 0) (l.getD 0 0 % 16) (l.getD 1 0) (ref.get2 l 4) (ref.get2 l 6) (ref.get2 l 6 % 8192) (l.getD 8 0) (l.getD 9 0) (ref.get4 l 12) (ref.get4 l 16) (bits .and .i64 (ref.get2 l 6) 16384 != 0) (bits .and .i64 (ref.get2 l 6) 8192 != 0) (bits .and .i64 (ref.get2 l 6) 32768 != 0) (hd l).toNat (tot l).toNat l hl (by omega) hn hnc hcm c0 c2 c3 w0 w2 w3 a2 hq (by omega) (by omega) orr (by omega) (by omega) (by omega) (by omega) (hid a7) (hid f1) (hid f2) (hid f3) (hid f4) (hid f5) (hid f6) (hid f7) (hid rfl) (hid rfl) (hid f8) (by omega) (hid rfl) hb1
    · have hb2 : (bits .and .i64 (ref.get2 l 6) 32768 != 0) = false := by simpa using hb1
      cases ho : okO (optD l) with
      | false =>
        rw [show late l = 3 from by unfold late; rw [if_neg hb1, if_pos ho]]
        exact dN2 w b off n c (l.getD 0 0) (l.getD 2 0) (l.getD 3 0) (l.getD 0 0 % 16) (l.getD 1 0) (ref.get2 l 4) (ref.get2 l 6) (ref.get2 l 6 % 8192) (l.getD 8 0) (l.getD 9 0) (ref.get4 l 12) (ref.get4 l 16) (bits .and .i64 (ref.get2 l 6) 16384 != 0) (bits .and .i64 (ref.get2 l 6) 8192 != 0) (bits .and .i64 (ref.get2 l 6) 32768 != 0) (hd l).toNat (tot l).toNat l hl (by omega) hn hnc hcm c0 c2 c3 w0 w2 w3 a2 hq (by omega) (by omega) orr (by omega) (by omega) (by omega) (by omega) (hid a7) (hid f1) (hid f2) (hid f3) (hid f4) (hid f5) (hid f6) (hid f7) (hid rfl) (hid rfl) (hid f8) (by omega) (hid rfl) hb2 (by rw [ho] at hof; exact hof)
      | true =>
        by_cases hg : 65535 - hd l < ref.get2 l 6 % 8192 * 8 + tot l - hd l
        · rw [show late l = 5 from by unfold late; rw [if_neg hb1, if_neg (by rw [ho]; simp), if_pos hg]]
          exact dN3 w b off n c (l.getD 0 0) (l.getD 2 0) (l.getD 3 0) (l.getD 0 0 % 16) (l.getD 1 0) (ref.get2 l 4) (ref.get2 l 6) (ref.get2 l 6 % 8192) (l.getD 8 0) (l.getD 9 0) (ref.get4 l 12) (ref.get4 l 16) (bits .and .i64 (ref.get2 l 6) 16384 != 0) (bits .and .i64 (ref.get2 l 6) 8192 != 0) (bits .and .i64 (ref.get2 l 6) 32768 != 0) (hd l).toNat (tot l).toNat l hl (by omega) hn hnc hcm c0 c2 c3 w0 w2 w3 a2 hq (by omega) (by omega) orr (by omega) (by omega) (by omega) (by omega) (hid a7) (hid f1) (hid f2) (hid f3) (hid f4) (hid f5) (hid f6) (hid f7) (hid rfl) (hid rfl) (hid f8) (by omega) (hid rfl) hb2 (by rw [ho] at hof; exact hof) (by omega)
        · exfalso; apply hne; unfold late; rw [if_neg hb1, if_neg (by rw [ho]; simp), if_neg hg]
  · have hd1 : dEp l = early l := by unfold dEp; rw [if_pos he]
    rw [hd1]
    exact decEarly w A n c l hl hnc hcm (by omega) he
theorem dEp0 {l : List Int} (h : dEp l = 0) : early l = 0 ∧ (bits .and .i64 (ref.get2 l 6) 32768 != 0) = false ∧ okO (optD l) = true ∧ ¬ 65535 - hd l < ref.get2 l 6 % 8192 * 8 + tot l - hd l := by
  unfold dEp at h
  by_cases he : early l = 0
  · rw [if_neg (fun h => h he)] at h
    unfold late at h
    split at h
    · omega
    · rename_i hb
      split at h
      · omega
      · rename_i ho
        split at h
        · omega
        · rename_i hg
          exact ⟨he, by simpa using hb, by simpa using ho, hg⟩
  · rw [if_pos he] at h; exact absurd h he
theorem decOk (w : World) (A : Option Addr) (n c : Nat) (l : List Int) (hl : Rd .u8 w A n l) (hnc : n ≤ c) (hcm : c ≤ maxLen) (hn : n ≤ 70000) (h0 : dEp l = 0) :
    Calls Tryd.prog 18 #[.slice A n c] w fun x w' => ∃ ov dv, ∃ t : Nat, x = .returned (.tuple #[.agg #[.int .i64 (l.getD 1 0), .int .i64 (ref.get2 l 4), .bool (bits .and .i64 (ref.get2 l 6) 16384 != 0), .bool (bits .and .i64 (ref.get2 l 6) 8192 != 0), .int .i64 (ref.get2 l 6 % 8192 * 8), .int .i64 (l.getD 8 0), .int .i64 (l.getD 9 0), .int .u32 (ref.get4 l 12), .int .u32 (ref.get4 l 16), ov, dv], .int .i64 0]) ∧ Own .u8 5 w' w.heap.size ov (optD l) ∧ Own .u8 5 w' t dv (datD l) ∧ (∀ k ∈ ov.ownBlock.toList, k < t) ∧ w.heap.size ≤ t ∧ Only [] w w' := by
  obtain ⟨he, hb2, ho, hg⟩ := dEp0 h0
  obtain ⟨a1, a2, a3, a4, a5, a6, a7⟩ := early0 he
  have hll := hl.len
  have eh : hd l = l.getD 0 0 % 16 * 4 := rfl
  have et : tot l = l.getD 2 0 * 256 + l.getD 3 0 := rfl
  obtain ⟨b, off, rfl, hb, hc⟩ := (hl.alloc (.cells #[.int .i64 0, .int .i64 0, .bool false, .bool false, .int .i64 0, .int .i64 0, .int .i64 0, .int .u32 0, .int .u32 0, .slice none 0 0, .slice none 0 0] 26)).at_ (by omega)
  have c0 := hc 0 (by omega); rw [Nat.add_zero] at c0
  have c2 := hc 2 (by omega); have c3 := hc 3 (by omega)
  have w0 := u8Bd (hl.getD_wf 0 (by omega)); have w2 := u8Bd (hl.getD_wf 2 (by omega)); have w3 := u8Bd (hl.getD_wf 3 (by omega))
  have hq := u8_and15 (l.getD 0 0) w0
  have orr : bits .or .i64 (l.getD 2 0 * 256) (l.getD 3 0) = (((tot l).toNat : Nat) : Int) := by
    have h9 : bits .or .i64 (l.getD 2 0 * 256) (l.getD 3 0) = l.getD 2 0 * 256 + l.getD 3 0 := i64_or_mul _ _ 8 256 rfl (by omega) (by omega) (by omega) (by omega)
    rw [h9]; omega
  have hkl : (l.take (hd l).toNat).length = (hd l).toNat := by rw [List.length_take]; omega
  have f1 : rdr.num (((l.take (hd l).toNat).drop 1).take 1) = l.getD 1 0 := by rw [num_one _ _ (by omega), getD_take _ _ _ (by omega)]
  have f2 : rdr.num (((l.take (hd l).toNat).drop 4).take 2) = ref.get2 l 4 := by rw [num_get2 _ _ (by omega), get2_take _ _ _ (by omega)]
  have f3 : rdr.num (((l.take (hd l).toNat).drop 6).take 2) = ref.get2 l 6 := by rw [num_get2 _ _ (by omega), get2_take _ _ _ (by omega)]
  have f4 : rdr.num (((l.take (hd l).toNat).drop 8).take 1) = l.getD 8 0 := by rw [num_one _ _ (by omega), getD_take _ _ _ (by omega)]
  have f5 : rdr.num (((l.take (hd l).toNat).drop 9).take 1) = l.getD 9 0 := by rw [num_one _ _ (by omega), getD_take _ _ _ (by omega)]
  have f6 : rdr.num (((l.take (hd l).toNat).drop 12).take 4) = ref.get4 l 12 := by rw [num_get4 _ _ (by omega), get4_take _ _ _ (by omega)]
  have f7 : rdr.num (((l.take (hd l).toNat).drop 16).take 4) = ref.get4 l 16 := by rw [num_get4 _ _ (by omega), get4_take _ _ _ (by omega)]
  have f8 : bits .and .i64 (ref.get2 l 6) 8191 = ref.get2 l 6 % 8192 := i64_mask _ 13 8191 (by decide) (by decide)
  have hof := ofs_okO (optD l)
  exact dN4 w b off n c (l.getD 0 0) (l.getD 2 0) (l.getD 3 0) (l.getD 0 0 % 16) (l.getD 1 0) (ref.get2 l 4) (ref.get2 l 6) (ref.get2 l 6 % 8192) (l.getD 8 0) (l.getD 9 0) (ref.get4 l 12) (ref.get4 l 16) (bits .and .i64 (ref.get2 l 6) 16384 != 0) (bits .and .i64 (ref.get2 l 6) 8192 != 0) (bits .and .i64 (ref.get2 l 6) 32768 != 0) (hd l).toNat (tot l).toNat l hl (by omega) hn hnc hcm c0 c2 c3 w0 w2 w3 a2 hq (by omega) (by omega) orr (by omega) (by omega) (by omega) (by omega) (hid a7) (hid f1) (hid f2) (hid f3) (hid f4) (hid f5) (hid f6) (hid f7) (hid rfl) (hid rfl) (hid f8) (by omega) (hid rfl) hb2 (by rw [ho] at hof; exact hof) (by omega)
end Go.Proofs.YtaoeflngdlgboaaDoor.ip
