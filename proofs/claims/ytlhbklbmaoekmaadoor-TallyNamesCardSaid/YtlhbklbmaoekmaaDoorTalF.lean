/-
  Chapter 2 (tally): laws: a nil Board takes nothing and says nothing; a counter never says less than before. Conditions: none but those typed.
-/
import Derived.Test.YtlhbklbmaoekmaaDoorTalE
namespace Go.Proofs.YtlhbklbmaoekmaaDoor.tal
set_option linter.unusedVariables false
set_option linter.unusedSimpArgs false
open Go.ChangeShapes Go.WideShapes Go.ChangeAt Go.RowKit Go.IntWalk Go.Lib
theorem addNil (w : World) (n y : Int) : Calls Tryd.prog 14 #[.pointer none, .int .i64 n, .int .i64 y] w fun x w' => x = .returned (.int .i64 1) ∧ w' = w := by
  go_enter Tryd.func14, Tryd.ntmps14
  go_wp2
  go_ret
  exact ⟨rfl, rfl⟩
theorem getNil (w : World) (n : Int) : Calls Tryd.prog 16 #[.pointer none, .int .i64 n] w fun x w' => x = .returned (.int .i64 0) ∧ w' = w := by
  go_enter Tryd.func16, Tryd.ntmps16
  go_wp2
  go_ret
  exact ⟨rfl, rfl⟩
theorem takeNil (w : World)  : Calls Tryd.prog 20 #[.pointer none] w fun x w' => x = .returned (.slice none 0 0) ∧ w' = w := by
  go_enter Tryd.func20, Tryd.ntmps20
  go_wp2
  go_ret
  exact ⟨rfl, rfl⟩
theorem nameNil (w : World) (n : Int) : Calls Tryd.prog 9 #[.pointer none, .int .i64 n] w fun x w' => x = .returned (.string ⟨#[]⟩) ∧ w' = w := by
  go_enter Tryd.func9, Tryd.ntmps9
  go_wp2
  go_ret
  exact ⟨rfl, rfl⟩
theorem numNil (w : World) (s : ByteArray) : Calls Tryd.prog 10 #[.pointer none, .string s] w fun x w' => x = .returned (.int .i64 (-1)) ∧ w' = w := by
  go_enter Tryd.func10, Tryd.ntmps10
  go_wp2
  go_ret
  exact ⟨rfl, rfl⟩
theorem spreadNil (w : World) : Calls Tryd.prog 18 #[.pointer none, .slice none 0 0] w fun x w' => x = .returned (.int .i64 1) ∧ Only [] w w' := by
  have Q : Hid (Only [] w (w.alloc (.cells #[.pointer none] 22))) := hid ((Only.refl [] w).alloc _)
  have k0 : (w.alloc (.cells #[.pointer none] 22)).cell? ⟨w.heap.size, 0, none⟩ = some (.pointer none) := (Ob.new w 22 #[.pointer none]).cell 0
  go_enter Tryd.func18, Tryd.ntmps18
  go_wp2
  go_ret
  exact ⟨rfl, Q.out⟩
set_option maxHeartbeats 4000000 in
theorem ofNothing (w : World) (n y : Int) (ht : ∀ i, i < 17 → w.cell? ⟨0, i, none⟩ = some (.string (nm i))) (h0 : 0 < w.heap.size) : Calls Tryd.prog 6 #[.int .i64 n, .int .i64 y] w fun e w' => e = .returned (.bool true) ∧ Only [] w w' := by
  have HT := hid ht; clear ht
  go_enter Tryd.func6, Tryd.ntmps6
  go_wp2_with fail
  refine (addNil _ n y).mono ?_
  rintro x w1 ⟨rfl, rfl⟩
  go_wp2_with fail
  refine (spreadNil _).mono ?_
  rintro x w2 ⟨rfl, o2⟩
  have Q2 := hid o2; clear o2
  go_wp2_with fail
  refine (getNil _ n).mono ?_
  rintro x w3 ⟨rfl, rfl⟩
  go_wp2_with fail
  refine (takeNil _).mono ?_
  rintro x w4 ⟨rfl, rfl⟩
  go_wp2_with fail
  refine (nameNil _ n).mono ?_
  rintro x w5 ⟨rfl, rfl⟩
  go_wp2_with fail
  refine (numNil _ _).mono ?_
  rintro x w6 ⟨rfl, rfl⟩
  go_wp2_with fail
  refine (known _ (fun i hi => Q2.out.keep (HT.out i hi)) (Nat.lt_of_lt_of_le h0 Q2.out.size)).mono ?_
  rintro x w7 ⟨rfl, o7⟩
  have Q7 := hid (Q2.out.trans o7); clear o7
  go_wp2
  go_ret
  exact ⟨rfl, Q7.out⟩
set_option maxRecDepth 100000 in
set_option maxHeartbeats 4000000 in
theorem ends (w : World) (n : Int) (A : Option Addr) (len cap : Nat) (l : List Int) (hl : Rd .i64 w A len l) (ht : ∀ i, i < 17 → w.cell? ⟨0, i, none⟩ = some (.string (nm i))) (h0 : 0 < w.heap.size) : Calls Tryd.prog 7 #[.int .i64 n, .slice A len cap] w fun e w' => e = .returned (.bool true) ∧ Only [] w w' := by
  have HT := hid ht; have HL := hid hl; clear ht hl
  have HKN := hid (fun (W : World) (Q : Only [] w W) => known W (fun i hi => Q.keep (HT.out i hi)) (Nat.lt_of_lt_of_le h0 Q.size))
  by_cases hbad : n < 0 ∨ 16 < n ∨ 200 < len
  · rcases (show n < 0 ∨ (¬ n < 0 ∧ 16 < n) ∨ (¬ n < 0 ∧ ¬ 16 < n ∧ 200 < len) by omega) with h1 | ⟨h1, h2⟩ | ⟨h1, h2, h3⟩
    · go_enter Tryd.func7, Tryd.ntmps7
      go_wp2_with fail
      refine (HKN.out _ (Only.refl _ _)).mono ?_
      rintro x w7 ⟨rfl, o7⟩
      go_wp2
      go_ret
      exact ⟨rfl, o7⟩
    · go_enter Tryd.func7, Tryd.ntmps7
      go_wp2_with fail
      refine (HKN.out _ (Only.refl _ _)).mono ?_
      rintro x w7 ⟨rfl, o7⟩
      go_wp2
      go_ret
      exact ⟨rfl, o7⟩
    · have h4 : (200 : Int) < len := by omega
      go_enter Tryd.func7, Tryd.ntmps7
      go_wp2_with fail
      refine (HKN.out _ (Only.refl _ _)).mono ?_
      rintro x w7 ⟨rfl, o7⟩
      go_wp2
      go_ret
      exact ⟨rfl, o7⟩
  · obtain ⟨k, rfl⟩ := Int.eq_ofNat_of_zero_le (show 0 ≤ n by omega)
    have hk : k < 17 := by omega
    have h1 : ¬ (k : Int) < 0 := by omega
    have h2 : ¬ (16 : Int) < k := by omega
    have h3 : ¬ (200 : Int) < len := by omega
    have hlen : len ≤ 200 := by omega
    clear hbad
    have OB := hid (new_bd w)
    have Q0 : Hid (Only [] w (w.alloc (.cells #[.int .i64 0, .int .i64 0, .int .i64 0, .int .i64 0, .int .i64 0, .int .i64 0, .int .i64 0, .int .i64 0, .int .i64 0, .int .i64 0, .int .i64 0, .int .i64 0, .int .i64 0, .int .i64 0, .int .i64 0, .int .i64 0, .int .i64 0, .int .u32 0, .int .i32 0, .int .u32 0, .map none] 41))) := hid ((Only.refl [] w).alloc _)
    have hg : w.heap.size < (w.alloc (.cells #[.int .i64 0, .int .i64 0, .int .i64 0, .int .i64 0, .int .i64 0, .int .i64 0, .int .i64 0, .int .i64 0, .int .i64 0, .int .i64 0, .int .i64 0, .int .i64 0, .int .i64 0, .int .i64 0, .int .i64 0, .int .i64 0, .int .i64 0, .int .u32 0, .int .i32 0, .int .u32 0, .map none] 41)).heap.size := OB.out.lt
    go_enter Tryd.func7, Tryd.ntmps7
    go_wp2_with fail
    generalize w.alloc (.cells #[.int .i64 0, .int .i64 0, .int .i64 0, .int .i64 0, .int .i64 0, .int .i64 0, .int .i64 0, .int .i64 0, .int .i64 0, .int .i64 0, .int .i64 0, .int .i64 0, .int .i64 0, .int .i64 0, .int .i64 0, .int .i64 0, .int .i64 0, .int .u32 0, .int .i32 0, .int .u32 0, .map none] 41) = W1 at *
    obtain ⟨g, hgd⟩ : ∃ g, g = w.heap.size := ⟨_, rfl⟩
    have HGD := hid hgd
    rw [← hgd] at OB hg
    rw [← hgd]
    clear hgd
    go_loopw [6, 7] (fun la i wr => ∃ (j : Nat) (a : Int), j ≤ len ∧ i = .int .i64 j ∧ la = .int .i64 a ∧ (0 ≤ a ∧ a ≤ 4611686018427387904) ∧ Hid (Ob wr g 41 (bd (zs.set k a) 0 0 0 (.map none))) ∧ Hid (Only [] w wr)) (fun _ i _ => len - (RowKit.intOf i).toNat)
    case atStart => exact ⟨0, 0, by omega, rfl, rfl, by omega, hid (by
      have h9 : zs.set k 0 = zs := by
        unfold zs
        rw [List.set_replicate_self]
      rw [h9]; exact OB.out), Q0⟩
    case round =>
      obtain ⟨j, a, hj, rfl, rfl, ha, HO, HQ⟩ := hrel
      have hzl : (zs.set k a).length = 17 := by rw [List.length_set]; rfl
      have hga : (zs.set k a).getD k 0 = a := by rw [List.getD_eq_getElem?_getD, List.getElem?_set_self (by show k < 17; omega)]; rfl
      by_cases hlt : j < len
      · obtain ⟨b, off, rfl, hb, hc⟩ := HL.out.at_ (by omega)
        have cj := HQ.out.keep (hc j hlt)
        have hlt2 : (j : Int) < len := by omega
        generalize l.getD j 0 = y at *
        by_cases hy : 0 ≤ y ∧ y ≤ 2147483647
        · have hmn : 0 ≤ min 4611686018427387904 (a + y) ∧ min 4611686018427387904 (a + y) ≤ 4611686018427387904 ∧ a ≤ min 4611686018427387904 (a + y) := by omega
          have hset : (zs.set k a).set k (min 4611686018427387904 (a + y)) = zs.set k (min 4611686018427387904 (a + y)) := List.set_set ..
          have HS := hid hset; clear hset
          have hg2 : (zs.set k (min 4611686018427387904 (a + y))).getD k 0 = min 4611686018427387904 (a + y) := by rw [List.getD_eq_getElem?_getD, List.getElem?_set_self (by show k < 17; omega)]; rfl
          have HA := hid (add1 wr g (zs.set k a) hzl 0 0 0 (.map none) k hk y a hga ha hy HO.out)
          rw [HS.out] at HA
          generalize min 4611686018427387904 (a + y) = z at *
          go_wp2_with fail
          clear cj
          refine HA.out.mono ?_
          rintro x w3 ⟨rfl, hb3, o3⟩
          have OB3 := hid hb3; have Q3 := hid (HQ.out.fresh o3 (fun i hi => .inr (by have := HGD.out; simp at hi; omega))); clear hb3 o3
          go_wp2_with fail
          refine (get1 _ g (zs.set k z) (by rw [List.length_set]; rfl) 0 0 0 (.map none) k hk z hg2 ⟨hmn.1, hmn.2.1⟩ OB3.out).mono ?_
          rintro x w4 ⟨rfl, rfl⟩
          have q1 : ¬ z < a := by omega
          have q2 : ¬ (4611686018427387904 : Int) < z := by omega
          go_wp2
          go_roundw
          case rel => exact ⟨j + 1, z, by omega, by go_num, by go_num, by omega, OB3, Q3⟩
          case measure => simp [RowKit.intOf]; omega
        · go_wp2_with fail
          clear cj
          refine (addBad _ g (k : Int) y (.inr (by omega))).mono ?_
          rintro x w3 ⟨rfl, rfl⟩
          go_wp2_with fail
          refine (get1 _ g (zs.set k a) hzl 0 0 0 (.map none) k hk a hga ha HO.out).mono ?_
          rintro x w4 ⟨rfl, rfl⟩
          have q1 : ¬ a < a := by omega
          have q2 : ¬ (4611686018427387904 : Int) < a := by omega
          go_wp2
          go_roundw
          case rel => exact ⟨j + 1, a, by omega, by go_num, by go_num, by omega, HO, HQ⟩
          case measure => simp [RowKit.intOf]; omega
      · obtain rfl : j = len := by omega
        go_wp2_with fail
        go_loopw [9] (fun i wr => ∃ (t : Nat), t ≤ 17 ∧ i = .int .i64 t ∧ Hid (Ob wr g 41 (bd (zs.set k a) 0 0 0 (.map none))) ∧ Hid (Only [] w wr)) (fun i _ => 17 - (RowKit.intOf i).toNat)
        case atStart => exact ⟨0, by omega, rfl, HO, HQ⟩
        case round =>
          obtain ⟨t, ht, rfl, HO2, HQ2⟩ := hrel
          by_cases hlt : t < 17
          · have hlt2 : (t : Int) < 17 := by omega
            by_cases htk : t = k
            · have e1 : (t : Int) = k := by omega
              have e2 : ((t : Int) != (k : Int)) = false := by simpa using e1
              go_wp2
              go_roundw
              case rel => exact ⟨t + 1, by omega, by go_num, HO2, HQ2⟩
              case measure => simp [RowKit.intOf]; omega
            · have e1 : ¬ (t : Int) = k := by omega
              have e2 : ((t : Int) != (k : Int)) = true := by simpa using e1
              have hz : (zs.set k a).getD t 0 = 0 := by
                rw [List.getD_eq_getElem?_getD, List.getElem?_set_ne (by omega)]
                have h9 : zs[t]? = some 0 := by unfold zs; rw [List.getElem?_replicate, if_pos hlt]
                rw [h9]; rfl
              go_wp2_with fail
              refine (get1 _ g (zs.set k a) hzl 0 0 0 (.map none) t hlt 0 hz (by omega) HO2.out).mono ?_
              rintro x w4 ⟨rfl, rfl⟩
              go_wp2
              go_roundw
              case rel => exact ⟨t + 1, by omega, by go_num, HO2, HQ2⟩
              case measure => simp [RowKit.intOf]; omega
          · obtain rfl : t = 17 := by omega
            go_wp2_with fail
            refine (HKN.out _ HQ2.out).mono ?_
            rintro x w7 ⟨rfl, o7⟩
            have Q7 := hid (HQ2.out.trans o7); clear o7
            go_wp2
            go_ret
            exact ⟨rfl, Q7.out⟩
end Go.Proofs.YtlhbklbmaoekmaaDoor.tal
