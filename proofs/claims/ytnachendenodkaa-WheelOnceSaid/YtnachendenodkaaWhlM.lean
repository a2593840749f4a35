/-
  Chapter 3 (wheel): the laws WheelMoves and WheelRoom, by a walk of each text. Conditions: none but those typed.
-/
import Derived.Test.YtnachendenodkaaWhlL
namespace Go.Proofs.Ytnachendenodkaa.whl
set_option linter.unusedVariables false
set_option linter.unusedSimpArgs false
open Go.ChangeShapes Go.WideShapes Go.ChangeAt Go.RowKit Go.IntWalk Go.Lib
theorem setS_new (key a : Int) (h0 : 0 ≤ a) (h1 : a ≤ 1099511627776) : setS [] key a = [⟨key, a⟩] := by rw [setS_ok (setE_ok h0 h1 (by simp))]; rfl
theorem setS_two (key a c : Int) (h0 : 0 ≤ c) (h1 : c ≤ 1099511627776) : setS [⟨key, a⟩] key c = [⟨key, c⟩] := by rw [setS_ok (setE_ok h0 h1 (by simp))]; simp [rm]
theorem lenX {w0 w : World} {g : Nat} {vs : List Value} {L : List Tm} (h : WX w0 w g vs L) : Calls Try.prog 10 #[.pointer (some ⟨g, 0, none⟩)] w fun x w' => x = .returned (.int .i64 L.length) ∧ WX w0 w' g vs L := (lenL w g vs L h.v).mono fun x w' ⟨e, o⟩ => ⟨e, h.only_nil o⟩
set_option maxHeartbeats 4000000 in
set_option maxRecDepth 100000 in
theorem movesIn (w : World) (key first second : Int) (hk : (Lit.int .i64 key).wf = true) (a1 : 0 ≤ first) (a2 : first ≤ 1099511627776) (a3 : 0 ≤ second) (a4 : second ≤ 1099511627776) : Calls Try.prog 7 #[.int .i64 key, .int .i64 first, .int .i64 second] w fun x w' => x = .returned (.bool true) ∧ Only [] w w' := by
  have hz := zeroW
  have H0 := hid (newX w)
  have e1 := hid (setE_ok (L := []) (key := key) a1 a2 (by simp)); have s1 := hid (setS_new key first a1 a2)
  have e2 := hid (setE_ok (L := [⟨key, first⟩]) (key := key) a3 a4 (by simp)); have s2 := hid (setS_two key first second a3 a4)
  have HKl : Hid (∀ x ∈ [key], (Lit.int .i64 x).wf = true) := hid (fun x hx => by rw [show x = key from by simpa using hx]; exact hk)
  clear hk
  go_enter Try.func7, Try.ntmps7
  go_wp2_with fail
  refine (setX w _ _ _ _ key first H0.out).mono ?_
  rintro x w1 ⟨rfl, vs1, h1⟩
  rw [s1.out] at h1
  rw [e1.out]
  have H1 := hid h1; clear h1
  go_wp2_with fail
  refine (setX w _ _ _ _ key second H1.out).mono ?_
  rintro x w2 ⟨rfl, vs2, h2⟩
  rw [s2.out] at h2
  rw [e2.out]
  have H2 := hid h2; clear h2
  go_wp2_with fail
  refine (lenX H2.out).mono ?_
  rintro x w3 ⟨rfl, h3⟩
  have H3 := hid h3; clear h3
  have FIN : ∀ (W : World) (vsW : List Value), WX w W w.heap.size vsW [⟨key, second⟩] → Calls Try.prog 13 #[.pointer (some ⟨w.heap.size, 0, none⟩), .int .i64 second] W fun x w' => ∃ b, x = .returned (.slice (some ⟨b, 0, none⟩) 1 1) ∧ w.heap.size ≤ b ∧ Ob w' b 3 (rowV .i64 [key]) ∧ ∃ vs', WX w w' w.heap.size vs' [] := fun W vsW hW => (dueX w W _ _ _ second hW).mono fun x w' ⟨E, b, vs', e, hp, hs, hb, ho, hw, _, _⟩ => by
    have hd : dues [⟨key, second⟩] second = [⟨key, second⟩] := by simp [dues, isDue]
    have hl : lates [⟨key, second⟩] second = [] := by simp [lates, isDue]
    rw [hd] at hp
    rw [hl] at hw
    obtain rfl := perm_one hp
    exact ⟨b, e, hb, ho, vs', hw⟩
  have HFin := hid FIN
  clear FIN
  by_cases hpos : 0 < second
  · go_wp2_with fail
    refine (dueX w _ _ _ _ (second - 1) H3.out).mono ?_
    rintro x w4 ⟨E, b, vs4, rfl, hp, hs, hb, ho, h4, hbg, hbb⟩
    have hd : dues [⟨key, second⟩] (second - 1) = [] := by simp [dues, isDue]; omega
    have hl : lates [⟨key, second⟩] (second - 1) = [⟨key, second⟩] := by simp [lates, isDue]; omega
    rw [hd] at hp
    rw [hl] at h4
    obtain rfl := hp.eq_nil
    have H4 := hid h4
    clear hp hs hb ho h4 hbg hbb hd hl
    go_wp2_with fail
    refine (HFin.out _ _ H4.out).mono ?_
    rintro x w5 ⟨b, rfl, hb, ho, vs5, h5⟩
    have H5 := hid h5; have HO := hid ho
    clear hb ho h5
    have HRd : Hid (Rd .i64 w5 (some ⟨b, 0, none⟩) 1 [key]) := hid (rd_rowI HO.out rfl HKl.out)
    have OB : Hid (Ob (w5.alloc (.cells #[.int .i64 key] 3)) w5.heap.size 3 (rowV .i64 [key])) := hid (Ob.new _ _ _)
    have HR2 : Hid (Rd .i64 (w5.alloc (.cells #[.int .i64 key] 3)) (some ⟨w5.heap.size, 0, none⟩) 1 [key]) := hid (rd_rowI OB.out rfl HKl.out)
    have HR1 : Hid (Rd .i64 (w5.alloc (.cells #[.int .i64 key] 3)) (some ⟨b, 0, none⟩) 1 [key]) := hid (HRd.out.only_nil ((Only.refl [] w5).alloc _))
    have H6 := hid (H5.out.only_nil ((Only.refl [] w5).alloc (.cells #[.int .i64 key] 3)))
    go_wp2_with fail
    refine (ints1 _ _ _ 1 1 1 1 _ _ HR1.out HR2.out (by omega)).mono ?_
    rintro x w7 ⟨rfl, o7⟩
    have H7 := hid (H6.out.only_nil o7); clear o7
    go_wp2_with fail
    refine (lenX H7.out).mono ?_
    rintro x w8 ⟨rfl, h8⟩
    have H8 := hid h8; clear h8
    go_wp2_with fail
    refine (known1 _).mono ?_
    rintro x w9 ⟨rfl, o9⟩
    have Q9 := hid (H8.out.o.trans o9); clear o9
    go_wp2_with fail
    go_ret
    exact ⟨rfl, Q9.out⟩
  · go_wp2_with fail
    refine (HFin.out _ _ H3.out).mono ?_
    rintro x w5 ⟨b, rfl, hb, ho, vs5, h5⟩
    have H5 := hid h5; have HO := hid ho
    clear hb ho h5
    have HRd : Hid (Rd .i64 w5 (some ⟨b, 0, none⟩) 1 [key]) := hid (rd_rowI HO.out rfl HKl.out)
    have OB : Hid (Ob (w5.alloc (.cells #[.int .i64 key] 3)) w5.heap.size 3 (rowV .i64 [key])) := hid (Ob.new _ _ _)
    have HR2 : Hid (Rd .i64 (w5.alloc (.cells #[.int .i64 key] 3)) (some ⟨w5.heap.size, 0, none⟩) 1 [key]) := hid (rd_rowI OB.out rfl HKl.out)
    have HR1 : Hid (Rd .i64 (w5.alloc (.cells #[.int .i64 key] 3)) (some ⟨b, 0, none⟩) 1 [key]) := hid (HRd.out.only_nil ((Only.refl [] w5).alloc _))
    have H6 := hid (H5.out.only_nil ((Only.refl [] w5).alloc (.cells #[.int .i64 key] 3)))
    go_wp2_with fail
    refine (ints1 _ _ _ 1 1 1 1 _ _ HR1.out HR2.out (by omega)).mono ?_
    rintro x w7 ⟨rfl, o7⟩
    have H7 := hid (H6.out.only_nil o7); clear o7
    go_wp2_with fail
    refine (lenX H7.out).mono ?_
    rintro x w8 ⟨rfl, h8⟩
    have H8 := hid h8; clear h8
    go_wp2_with fail
    refine (known1 _).mono ?_
    rintro x w9 ⟨rfl, o9⟩
    have Q9 := hid (H8.out.o.trans o9); clear o9
    go_wp2_with fail
    go_ret
    exact ⟨rfl, Q9.out⟩
set_option maxHeartbeats 4000000 in
theorem moves (w : World) (key first second : Int) (hk : (Lit.int .i64 key).wf = true) : Calls Try.prog 7 #[.int .i64 key, .int .i64 first, .int .i64 second] w fun x w' => x = .returned (.bool true) ∧ Only [] w w' := by
  by_cases a : 0 ≤ first ∧ first ≤ 1099511627776 ∧ 0 ≤ second ∧ second ≤ 1099511627776
  · exact movesIn w key first second hk a.1 a.2.1 a.2.2.1 a.2.2.2
  · have KN := hid known1
    rcases (by omega : first < 0 ∨ (0 ≤ first ∧ 1099511627776 < first) ∨ (0 ≤ first ∧ first ≤ 1099511627776 ∧ second < 0) ∨ (0 ≤ first ∧ first ≤ 1099511627776 ∧ 0 ≤ second ∧ 1099511627776 < second)) with b | ⟨b1, b2⟩ | ⟨b1, b2, b3⟩ | ⟨b1, b2, b3, b4⟩
    all_goals
      clear a hk
      go_enter Try.func7, Try.ntmps7
      go_wp2_with fail
      refine (KN.out _).mono ?_
      rintro x w9 ⟨rfl, o9⟩
      have Q9 := hid o9; clear o9
      go_wp2_with fail
      go_ret
      exact ⟨rfl, Q9.out⟩
/-- The timers that the law sets. -/
def row (n : Nat) : List Tm := (List.range n).map fun (j : Nat) => (⟨(j : Int), (j : Int)⟩ : Tm)
theorem row_len (n : Nat) : (row n).length = n := by simp [row]
theorem row_no (n : Nat) (k : Int) (h : k < 0 ∨ (n : Int) ≤ k) : has (row n) k = false := by
  unfold has row
  rw [List.any_eq_false]
  intro t ht
  obtain ⟨j, hj, rfl⟩ := List.mem_map.1 ht
  have : j < n := by simpa using hj
  simp; omega
theorem row_succ (n : Nat) (h : n < 256) : setE (row n) n n = 0 ∧ setS (row n) n n = row (n + 1) := by
  have e := setE_ok (L := row n) (key := (n : Int)) (a := (n : Int)) (by omega) (by omega) (by rw [row_len]; exact h)
  refine ⟨e, ?_⟩
  rw [setS_ok e, has_rm (row_no n n (.inr (by omega)))]
  simp [row, List.range_succ]
theorem row_yes (n : Nat) (k : Int) (h0 : 0 ≤ k) (h1 : k < n) : ∃ t, t ∈ row n ∧ t.k = k := ⟨⟨k, k⟩, by
  unfold row
  rw [List.mem_map]
  exact ⟨k.toNat, by simp; omega, by rw [Int.toNat_of_nonneg h0]⟩, rfl⟩
end Go.Proofs.Ytnachendenodkaa.whl
