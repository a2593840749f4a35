/-
  Chapter 6 (ipv4): an address out of any text in the document's words, by a walk of its text; a law: any text is an address, or refused. Conditions: none but those typed.
-/
import Derived.Test.YtaoeflngdlgboaaDoorIpP
namespace Go.Proofs.YtaoeflngdlgboaaDoor.ip
set_option linter.unusedVariables false
set_option linter.unusedSimpArgs false
open Go.ChangeShapes Go.WideShapes Go.ChangeAt Go.RowKit Go.IntWalk Go.Lib
def pw (n : Nat) : Int := 256 ^ n - 1
theorem pw0 : pw 0 = 0 := rfl
theorem pw3 (n : Nat) (h : n ≤ 3) : pw n ≤ 16777215 := by
  rcases (show n = 0 ∨ n = 1 ∨ n = 2 ∨ n = 3 by omega) with rfl | rfl | rfl | rfl <;> decide
theorem pw_next (n : Nat) (a v : Int) (ha : a ≤ pw n) (hv : v ≤ 255) : a * 256 + v ≤ pw (n + 1) := by
  unfold pw at *
  have e : (256 : Int) ^ (n + 1) = 256 ^ n * 256 := Int.pow_succ _ _
  omega
theorem drop_at (s : ByteArray) (i : Nat) (h : i < s.size) : ∃ c, s.data.toList.drop i = c :: s.data.toList.drop (i + 1) ∧ (c.toNat : Int) = ch s i := by
  have hl : i < s.data.toList.length := by rw [Array.length_toList]; exact h
  refine ⟨s.data.toList[i], List.drop_eq_getElem_cons hl, ?_⟩
  unfold ch
  rw [List.getD_eq_getElem?_getD, List.getElem?_eq_getElem hl]
  rfl
theorem drop_end (s : ByteArray) : s.data.toList.drop s.size = [] := List.drop_of_length_le (by rw [Array.length_toList]; exact Nat.le_refl _)
/-- What the reader has left to say. -/
def Left (s : ByteArray) (n : Nat) (v : Int) (k : Nat) (a : Int) (i : Nat) : Prop :=
  (i ≤ s.size ∧ rd4 s.data.toList 0 0 0 0 = rd4 (s.data.toList.drop i) n v k a) ∨ (i = s.size + 1 ∧ rd4 s.data.toList 0 0 0 0 = if n = 4 then some a else none)
theorem Left.dot_no {s : ByteArray} {n k i : Nat} {v a : Int} (h : Left s n v k a i) (hi : i ≤ s.size) (hd : i < s.size → ch s i = 46) (hno : k = 0 ∨ n = 4) : rd4 s.data.toList 0 0 0 0 = none := by
  rcases h with ⟨_, h⟩ | ⟨h, _⟩
  · rw [h]
    rcases Nat.lt_or_ge i s.size with hlt | hge
    · obtain ⟨c, hc, hx⟩ := drop_at s i hlt
      rw [hc, rd4_cons, if_pos (by rw [hx]; exact hd hlt), if_pos hno]
    · obtain rfl : i = s.size := by omega
      rw [drop_end, rd4_nil, if_pos hno]
  · omega
theorem Left.dot {s : ByteArray} {n k i : Nat} {v a : Int} (h : Left s n v k a i) (hi : i ≤ s.size) (hd : i < s.size → ch s i = 46) (hk : ¬ k = 0) (hn : ¬ n = 4) : Left s (n + 1) 0 0 (a * 256 + v) (i + 1) := by
  rcases h with ⟨_, h⟩ | ⟨h, _⟩
  · rcases Nat.lt_or_ge i s.size with hlt | hge
    · refine .inl ⟨by omega, ?_⟩
      obtain ⟨c, hc, hx⟩ := drop_at s i hlt
      rw [h, hc, rd4_cons, if_pos (by rw [hx]; exact hd hlt), if_neg (by rintro (h | h) <;> contradiction)]
    · obtain rfl : i = s.size := by omega
      refine .inr ⟨rfl, ?_⟩
      rw [h, drop_end, rd4_nil, if_neg (by rintro (h | h) <;> contradiction)]
  · omega
theorem Left.no {s : ByteArray} {n k i : Nat} {v a : Int} (h : Left s n v k a i) (hi : i < s.size) (hd : ¬ ch s i = 46) (hno : ch s i < 48 ∨ 57 < ch s i ∨ (0 < k ∧ v = 0) ∨ 255 < v * 10 + ch s i - 48) : rd4 s.data.toList 0 0 0 0 = none := by
  rcases h with ⟨_, h⟩ | ⟨h, _⟩
  · obtain ⟨c, hc, hx⟩ := drop_at s i hi
    rw [h, hc, rd4_cons, if_neg (by rw [hx]; exact hd), hx, dstep_no hno]
  · omega
theorem Left.yes {s : ByteArray} {n k i : Nat} {v a : Int} (h : Left s n v k a i) (hi : i < s.size) (hd : 48 ≤ ch s i ∧ ch s i ≤ 57) (h2 : ¬ (0 < k ∧ v = 0)) (h3 : v * 10 + ch s i - 48 ≤ 255) : Left s n (v * 10 + ch s i - 48) (k + 1) a (i + 1) := by
  rcases h with ⟨_, h⟩ | ⟨h, _⟩
  · refine .inl ⟨by omega, ?_⟩
    obtain ⟨c, hc, hx⟩ := drop_at s i hi
    rw [h, hc, rd4_cons, if_neg (by rw [hx]; omega), hx, dstep_yes hd h2 h3]
  · omega
set_option maxRecDepth 100000 in
set_option maxHeartbeats 4000000 in
theorem rparse1 (w : World) (s : ByteArray) (hs : s.size ≤ 4000) : Calls Tryd.prog 26 #[.string s] w fun x w' => x = .returned (.tuple #[.int .u32 (prsA (cut s)), .int .i64 (prsE (cut s))]) ∧ w = w' := by
  have HP := hid (rd4_prs s)
  have HL0 : Hid (Left s 0 0 0 0 0) := hid (.inl ⟨by omega, rfl⟩)
  go_enter Tryd.func26, Tryd.ntmps26
  go_wp2
  go_loopw [4, 5, 6, 7, 8] (fun n v k a i wr => ∃ (n' k' i' : Nat) (v' a' : Int), n = .int .i64 n' ∧ v = .int .i64 v' ∧ k = .int .i64 k' ∧ a = .int .u32 a' ∧ i = .int .i64 i' ∧ n' ≤ 4 ∧ k' ≤ i' ∧ i' ≤ s.size + 1 ∧ (0 ≤ v' ∧ v' ≤ 255) ∧ (0 ≤ a' ∧ a' ≤ pw n') ∧ Hid (Left s n' v' k' a' i') ∧ wr = w) (fun _ _ _ _ i _ => s.size + 1 - (RowKit.intOf i).toNat)
  case atStart => exact ⟨0, 0, 0, 0, 0, rfl, rfl, rfl, rfl, rfl, by omega, by omega, by omega, by omega, by rw [pw0]; omega, HL0, rfl⟩
  case round =>
    obtain ⟨n, k, i, v, a, rfl, rfl, rfl, rfl, rfl, hn, hk, hi, hv, ha, HL, rfl⟩ := hrel
    by_cases hend : i = s.size + 1
    · have hle : ¬ (i : Int) ≤ (s.size : Int) := by omega
      have HF : Hid (rd4 s.data.toList 0 0 0 0 = if n = 4 then some a else none) := hid (by rcases HL.out with ⟨h, _⟩ | ⟨_, h⟩ <;> first | (exfalso; omega) | exact h)
      by_cases hn4 : n = 4
      · have HG := hid (HP.out.2 a (by rw [HF.out, if_pos hn4]))
        have e3 : (n : Int) = 4 := by omega
        have e4 : ((n : Int) != 4) = false := by simpa using e3
        go_wp2
        go_ret2
        exact ⟨by rw [HG.out.1, HG.out.2]; rfl, rfl⟩
      · have HB := hid (HP.out.1 (by rw [HF.out, if_neg hn4]))
        have e3 : ¬ (n : Int) = 4 := by omega
        have e4 : ((n : Int) != 4) = true := by simpa using e3
        go_wp2
        go_ret2
        exact ⟨by rw [HB.out.1, HB.out.2]; rfl, rfl⟩
    · have hle : (i : Int) ≤ (s.size : Int) := by omega
      by_cases heq : i = s.size
      · have hdot : i < s.size → ch s i = 46 := fun h => by omega
        have q1 : (i : Int) = (s.size : Int) := by omega
        have q2 : ((i : Int) == (s.size : Int)) = true := by simpa using q1
        by_cases hk0 : k = 0
        · have HB := hid (HP.out.1 (HL.out.dot_no (by omega) hdot (.inl hk0)))
          have e1 : (k : Int) = 0 := by omega
          have e2 : ((k : Int) == 0) = true := by simpa using e1
          go_wp2
          go_ret2
          exact ⟨by rw [HB.out.1, HB.out.2]; rfl, rfl⟩
        · have e1 : ¬ (k : Int) = 0 := by omega
          have e2 : ((k : Int) == 0) = false := by simpa using e1
          by_cases hn4 : n = 4
          · have HB := hid (HP.out.1 (HL.out.dot_no (by omega) hdot (.inr hn4)))
            have e3 : (n : Int) = 4 := by omega
            have e4 : ((n : Int) == 4) = true := by simpa using e3
            go_wp2
            go_ret2
            exact ⟨by rw [HB.out.1, HB.out.2]; rfl, rfl⟩
          · have HN := hid (HL.out.dot (by omega) hdot hk0 hn4)
            have e3 : ¬ (n : Int) = 4 := by omega
            have e4 : ((n : Int) == 4) = false := by simpa using e3
            have h3 := pw3 n (by omega)
            have HPW := hid (pw_next n a v ha.2 hv.2)
            have hfit : 0 ≤ a ∧ a ≤ 16777215 := by omega
            have hor : bits .or .u32 (a * 256) v = a * 256 + v := u32_or_mul _ _ 8 256 rfl (by omega) (by omega) (by omega) (by omega)
            go_wp2
            go_roundw
            case rel => exact ⟨n + 1, 0, i + 1, 0, a * 256 + v, by go_num, by go_num, by go_num, by go_num, by go_num, by omega, by omega, by omega, by omega, ⟨by omega, HPW.out⟩, HN, by first | rfl | trivial⟩
            case measure => simp [RowKit.intOf]; omega
      · have hlt : i < s.size := by omega
        have q1 : ¬ (i : Int) = (s.size : Int) := by omega
        have q2 : ((i : Int) == (s.size : Int)) = false := by simpa using q1
        have hl3 : (i : Int) < (s.size : Int) := by omega
        have xq := ixs s i hlt
        have hx := ch_bd s i
        by_cases hd : ch s i = 46
        · rw [hd] at xq
          have hdot : i < s.size → ch s i = 46 := fun _ => hd
          by_cases hk0 : k = 0
          · have HB := hid (HP.out.1 (HL.out.dot_no (by omega) hdot (.inl hk0)))
            have e1 : (k : Int) = 0 := by omega
            have e2 : ((k : Int) == 0) = true := by simpa using e1
            go_wp2
            go_ret2
            exact ⟨by rw [HB.out.1, HB.out.2]; rfl, rfl⟩
          · have e1 : ¬ (k : Int) = 0 := by omega
            have e2 : ((k : Int) == 0) = false := by simpa using e1
            by_cases hn4 : n = 4
            · have HB := hid (HP.out.1 (HL.out.dot_no (by omega) hdot (.inr hn4)))
              have e3 : (n : Int) = 4 := by omega
              have e4 : ((n : Int) == 4) = true := by simpa using e3
              go_wp2
              go_ret2
              exact ⟨by rw [HB.out.1, HB.out.2]; rfl, rfl⟩
            · have HN := hid (HL.out.dot (by omega) hdot hk0 hn4)
              have e3 : ¬ (n : Int) = 4 := by omega
              have e4 : ((n : Int) == 4) = false := by simpa using e3
              have h3 := pw3 n (by omega)
              have HPW := hid (pw_next n a v ha.2 hv.2)
              have hfit : 0 ≤ a ∧ a ≤ 16777215 := by omega
              have hor : bits .or .u32 (a * 256) v = a * 256 + v := u32_or_mul _ _ 8 256 rfl (by omega) (by omega) (by omega) (by omega)
              go_wp2
              go_roundw
              case rel => exact ⟨n + 1, 0, i + 1, 0, a * 256 + v, by go_num, by go_num, by go_num, by go_num, by go_num, by omega, by omega, by omega, by omega, ⟨by omega, HPW.out⟩, HN, by first | rfl | trivial⟩
              case measure => simp [RowKit.intOf]; omega
        · have HNO := hid (fun h => HP.out.1 (HL.out.no hlt hd h))
          have HYES := hid (HL.out.yes hlt)
          generalize ch s i = x at *
          have f2 : (x == 46) = false := by simpa using hd
          by_cases g1 : x < 48
          · have HB := hid (HNO.out (.inl g1))
            go_wp2
            go_ret2
            exact ⟨by rw [HB.out.1, HB.out.2]; rfl, rfl⟩
          · by_cases g2 : 57 < x
            · have HB := hid (HNO.out (.inr (.inl g2)))
              go_wp2
              go_ret2
              exact ⟨by rw [HB.out.1, HB.out.2]; rfl, rfl⟩
            · by_cases g3 : 0 < k
              · have g3' : (0 : Int) < (k : Int) := by omega
                by_cases g4 : v = 0
                · have HB := hid (HNO.out (.inr (.inr (.inl ⟨g3, g4⟩))))
                  have g5 : (v == 0) = true := by simpa using g4
                  go_wp2
                  go_ret2
                  exact ⟨by rw [HB.out.1, HB.out.2]; rfl, rfl⟩
                · have g5 : (v == 0) = false := by simpa using g4
                  by_cases g6 : 255 < v * 10 + x - 48
                  · have HB := hid (HNO.out (.inr (.inr (.inr g6))))
                    go_wp2
                    go_ret2
                    exact ⟨by rw [HB.out.1, HB.out.2]; rfl, rfl⟩
                  · have HN := hid (HYES.out ⟨by omega, by omega⟩ (by rintro ⟨_, h⟩; exact g4 h) (by omega))
                    go_wp2
                    go_roundw
                    case rel => exact ⟨n, k + 1, i + 1, v * 10 + x - 48, a, by go_num, by go_num, by go_num, by go_num, by go_num, by omega, by omega, by omega, by omega, ha, HN, by first | rfl | trivial⟩
                    case measure => simp [RowKit.intOf]; omega
              · have g3' : ¬ (0 : Int) < (k : Int) := by omega
                by_cases g6 : 255 < v * 10 + x - 48
                · have HB := hid (HNO.out (.inr (.inr (.inr g6))))
                  go_wp2
                  go_ret2
                  exact ⟨by rw [HB.out.1, HB.out.2]; rfl, rfl⟩
                · have HN := hid (HYES.out ⟨by omega, by omega⟩ (by rintro ⟨h, _⟩; exact g3 h) (by omega))
                  go_wp2
                  go_roundw
                  case rel => exact ⟨n, k + 1, i + 1, v * 10 + x - 48, a, by go_num, by go_num, by go_num, by go_num, by go_num, by omega, by omega, by omega, by omega, ha, HN, by first | rfl | trivial⟩
                  case measure => simp [RowKit.intOf]; omega
set_option maxHeartbeats 2000000 in
theorem parses (w : World) (s : ByteArray) (m : Int) (hm : w.cell? ⟨1, 0, none⟩ = some (.int .i64 m)) (ht : Lib.TabIs Tryd.prog w "internal/strconv.uint64pow10" .u64 Lib.pow10Tab) :
    Calls Tryd.prog 8 #[.string s] w fun x w' => x = .returned (.bool true) ∧ Only [] w w' := by
  have HM := hid hm; have HT := hid ht; clear hm ht
  by_cases hlen : s.size > 4000
  · have h1 : (s.size : Int) > 4000 := by omega
    have h2 : (4000 : Int) < s.size := by omega
    go_enter Tryd.func8, Tryd.ntmps8
    go_wp2
    go_ret
    exact ⟨rfl, Only.refl _ _⟩
  · have h1 : ¬ (s.size : Int) > 4000 := by omega
    have h2 : ¬ (4000 : Int) < s.size := by omega
    have H2 := hid (rparse1 · s (by omega))
    have H1 := hid (fun W h => parse1 W s m (by omega) h)
    go_enter Tryd.func8, Tryd.ntmps8
    go_wp2_with fail
    refine (H1.out _ HM.out).mono ?_
    rintro x w1 ⟨rfl, o1⟩
    have Q := hid o1; clear o1
    generalize prsA (cut s) = a at *
    generalize prsE (cut s) = e at *
    go_wp2_with fail
    refine (H2.out _).mono ?_
    rintro x w2 ⟨rfl, rfl⟩
    go_wp2_with fail
    refine (known _ m (Q.out.keep HM.out) (tab_only HT.out Q.out)).mono ?_
    rintro x w4 ⟨rfl, o4⟩
    have Q := hid (Q.out.trans o4); clear o4
    go_wp2
    go_ret
    exact ⟨rfl, Q.out⟩
end Go.Proofs.YtaoeflngdlgboaaDoor.ip
