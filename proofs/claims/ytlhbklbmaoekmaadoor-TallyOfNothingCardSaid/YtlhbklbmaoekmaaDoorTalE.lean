/-
  Chapter 2 (tally): what is added, said and named, by a walk of each text. Conditions: none but those typed.
-/
import Derived.Test.YtlhbklbmaoekmaaDoorTalD
namespace Go.Proofs.YtlhbklbmaoekmaaDoor.tal
set_option linter.unusedVariables false
set_option linter.unusedSimpArgs false
open Go.ChangeShapes Go.WideShapes Go.ChangeAt Go.RowKit Go.IntWalk Go.Lib
theorem a_add (a : Addr) (x y s : Int) (w : World) (hc : w.cell? a = some (.int .i64 x)) (hz : w.frozen? a = false) (hs : x + y = s) (hb : -9223372036854775808 ≤ s ∧ s ≤ 9223372036854775807) :
    Calls Tryd.prog 24 #[.pointer (some a), .int .i64 y] w fun e w' => e = .returned (.int .i64 s) ∧ w' = w.setCell a (.int .i64 s) := by
  have h9 : IntKind.i64.wrap (x + y) = s := by rw [hs]; exact i64_in _ hb
  have h4 := run_call_add (P := Tryd.prog) Tryd.func34 (by kernel_rfl) (by kernel_rfl) (by kernel_rfl) .i64 (by kernel_rfl) (y := y) (s := s) hc hz (by rw [← h9]; simp [go_sem])
  clear h9 hs
  go_enter Tryd.func24, Tryd.ntmps24
  go_wp2
  go_ret
  exact ⟨rfl, rfl⟩
theorem a_cas (a : Addr) (x y : Int) (w : World) (hc : w.cell? a = some (.int .i64 x)) (hz : w.frozen? a = false) :
    Calls Tryd.prog 25 #[.pointer (some a), .int .i64 x, .int .i64 y] w fun e w' => e = .returned (.bool true) ∧ w' = w.setCell a (.int .i64 y) := by
  have h4 := run_call_cas_hit (P := Tryd.prog) Tryd.func35 (by kernel_rfl) (by kernel_rfl) (by kernel_rfl) .i64 (by kernel_rfl) (y := y) hc hz
  go_enter Tryd.func25, Tryd.ntmps25
  go_wp2
  go_ret
  exact ⟨rfl, rfl⟩
theorem a_load (a : Addr) (x : Int) (w : World) (hc : w.cell? a = some (.int .i64 x)) :
    Calls Tryd.prog 26 #[.pointer (some a)] w fun e w' => e = .returned (.int .i64 x) ∧ w' = w := by
  have h4 := run_call_load (P := Tryd.prog) Tryd.func36 (by kernel_rfl) (by kernel_rfl) (by kernel_rfl) .i64 (by kernel_rfl) hc
  go_enter Tryd.func26, Tryd.ntmps26
  go_wp2
  go_ret
  exact ⟨rfl, rfl⟩
theorem kn1 (n : Int) (b : Bool) (w : World) (hb : decide (0 ≤ n ∧ n < 17) = b) : Calls Tryd.prog 21 #[.int .i64 n] w fun e w' => e = .returned (.bool b) ∧ w' = w := by
  subst hb
  by_cases h0 : 0 ≤ n
  · by_cases h1 : n < 17
    · rw [decide_eq_true (show 0 ≤ n ∧ n < 17 from ⟨h0, h1⟩)]
      go_enter Tryd.func21, Tryd.ntmps21
      go_wp2
      go_ret
      exact ⟨rfl, rfl⟩
    · rw [decide_eq_false (show ¬ (0 ≤ n ∧ n < 17) from fun h => h1 h.2)]
      go_enter Tryd.func21, Tryd.ntmps21
      go_wp2
      go_ret
      exact ⟨rfl, rfl⟩
  · rw [decide_eq_false (show ¬ (0 ≤ n ∧ n < 17) from fun h => h0 h.1)]
    go_enter Tryd.func21, Tryd.ntmps21
    go_wp2
    go_ret
    exact ⟨rfl, rfl⟩
def top : Int := 4611686018427387904
set_option maxHeartbeats 4000000 in
theorem add1 (w : World) (g : Nat) (L : List Int) (hL : L.length = 17) (d st se : Int) (mv : Value) (n : Nat) (hn : n < 17) (y a : Int) (ha : L.getD n 0 = a) (ha0 : 0 ≤ a ∧ a ≤ 4611686018427387904) (hy : 0 ≤ y ∧ y ≤ 2147483647) (hb : Ob w g 41 (bd L d st se mv)) :
    Calls Tryd.prog 14 #[.pointer (some ⟨g, 0, none⟩), .int .i64 n, .int .i64 y] w fun x w' => x = .returned (.int .i64 0) ∧ Ob w' g 41 (bd (L.set n (min 4611686018427387904 (a + y))) d st se mv) ∧ Only [g] w w' := by
  have OB := hid hb
  have hcell : w.cell? ⟨g, n, none⟩ = some (.int .i64 a) := (hb.cell n).trans ((bd_at hL d st se mv n hn).trans (by rw [ha]))
  have hfr := hb.frozen n
  have e1 : ¬ y < 0 := by omega
  have e2 : ¬ (2147483647 : Int) < y := by omega
  have e3 : (n : Int) < 17 := by omega
  have e4 : (0 : Int) ≤ n := by omega
  clear hb
  by_cases hov : 4611686018427387904 < a + y
  · go_enter Tryd.func14, Tryd.ntmps14
    go_wp2_with fail
    refine (kn1 (n : Int) true _ (decide_eq_true ⟨e4, e3⟩)).mono ?_
    rintro x w1 ⟨rfl, rfl⟩
    go_wp2_with fail
    refine (a_add ⟨g, n, none⟩ a y (a + y) _ hcell hfr rfl (by omega)).mono ?_
    rintro x w2 ⟨rfl, h2⟩
    have OB2 : Hid (Ob w2 g 41 (bd (L.set n (a + y)) d st se mv)) := hid (by rw [h2]; have h9 := OB.out.set n (.int .i64 (a + y)); rwa [bd_set hL d st se mv n hn] at h9)
    have Q2 : Hid (Only [g] w1 w2) := hid (by rw [h2]; exact (Only.refl [g] w1).setCell (p := ⟨g, n, none⟩) (Or.inl (by simp)) _)
    clear h2 hcell hfr
    have hL2 : (L.set n (a + y)).length = 17 := by rw [List.length_set]; exact hL
    have hc2 : w2.cell? ⟨g, n, none⟩ = some (.int .i64 (a + y)) := (OB2.out.cell n).trans ((bd_at hL2 d st se mv n hn).trans (by rw [List.getD_eq_getElem?_getD, List.getElem?_set_self (by omega)]; rfl))
    go_wp2_with fail
    refine (a_cas ⟨g, n, none⟩ (a + y) 4611686018427387904 _ hc2 (OB2.out.frozen n)).mono ?_
    rintro x w3 ⟨rfl, h3⟩
    have OB3 : Hid (Ob w3 g 41 (bd (L.set n 4611686018427387904) d st se mv)) := hid (by rw [h3]; have h9 := OB2.out.set n (.int .i64 4611686018427387904); rwa [bd_set hL2 d st se mv n hn, List.set_set] at h9)
    have Q3 : Hid (Only [g] w1 w3) := hid (by rw [h3]; exact Q2.out.setCell (p := ⟨g, n, none⟩) (Or.inl (by simp)) _)
    clear h3
    go_wp2
    go_ret
    rw [show min (4611686018427387904 : Int) (a + y) = 4611686018427387904 from by omega]
    exact ⟨rfl, OB3.out, Q3.out⟩
  · go_enter Tryd.func14, Tryd.ntmps14
    go_wp2_with fail
    refine (kn1 (n : Int) true _ (decide_eq_true ⟨e4, e3⟩)).mono ?_
    rintro x w1 ⟨rfl, rfl⟩
    go_wp2_with fail
    refine (a_add ⟨g, n, none⟩ a y (a + y) _ hcell hfr rfl (by omega)).mono ?_
    rintro x w2 ⟨rfl, h2⟩
    have OB2 : Hid (Ob w2 g 41 (bd (L.set n (a + y)) d st se mv)) := hid (by rw [h2]; have h9 := OB.out.set n (.int .i64 (a + y)); rwa [bd_set hL d st se mv n hn] at h9)
    have Q2 : Hid (Only [g] w1 w2) := hid (by rw [h2]; exact (Only.refl [g] w1).setCell (p := ⟨g, n, none⟩) (Or.inl (by simp)) _)
    clear h2 hcell hfr
    go_wp2
    go_ret
    rw [show min (4611686018427387904 : Int) (a + y) = a + y from by omega]
    exact ⟨rfl, OB2.out, Q2.out⟩
set_option maxHeartbeats 4000000 in
theorem addBad (w : World) (g : Nat) (n y : Int) (h : ¬ (0 ≤ n ∧ n < 17) ∨ y < 0 ∨ 2147483647 < y) :
    Calls Tryd.prog 14 #[.pointer (some ⟨g, 0, none⟩), .int .i64 n, .int .i64 y] w fun x w' => x = .returned (.int .i64 1) ∧ w' = w := by
  have HK := fun b h => kn1 n b w h
  by_cases h1 : 0 ≤ n ∧ n < 17
  · have HK := hid (HK true (decide_eq_true h1))
    by_cases h2 : y < 0
    · go_enter Tryd.func14, Tryd.ntmps14
      go_wp2_with fail
      refine HK.out.mono ?_
      rintro x w1 ⟨rfl, rfl⟩
      go_wp2
      go_ret
      exact ⟨rfl, rfl⟩
    · have h3 : (2147483647 : Int) < y := by omega
      go_enter Tryd.func14, Tryd.ntmps14
      go_wp2_with fail
      refine HK.out.mono ?_
      rintro x w1 ⟨rfl, rfl⟩
      go_wp2
      go_ret
      exact ⟨rfl, rfl⟩
  · have HK := hid (HK false (decide_eq_false h1))
    clear h h1
    go_enter Tryd.func14, Tryd.ntmps14
    go_wp2_with fail
    refine HK.out.mono ?_
    rintro x w1 ⟨rfl, rfl⟩
    go_wp2
    go_ret
    exact ⟨rfl, rfl⟩
set_option maxHeartbeats 4000000 in
theorem get1 (w : World) (g : Nat) (L : List Int) (hL : L.length = 17) (d st se : Int) (mv : Value) (n : Nat) (hn : n < 17) (a : Int) (ha : L.getD n 0 = a) (ha0 : 0 ≤ a ∧ a ≤ 4611686018427387904) (hb : Ob w g 41 (bd L d st se mv)) :
    Calls Tryd.prog 16 #[.pointer (some ⟨g, 0, none⟩), .int .i64 n] w fun x w' => x = .returned (.int .i64 a) ∧ w' = w := by
  have hcell : w.cell? ⟨g, n, none⟩ = some (.int .i64 a) := (hb.cell n).trans ((bd_at hL d st se mv n hn).trans (by rw [ha]))
  have e3 : (n : Int) < 17 := by omega
  have e4 : (0 : Int) ≤ n := by omega
  have e5 : min a 4611686018427387904 = a := by omega
  clear hb
  go_enter Tryd.func16, Tryd.ntmps16
  go_wp2_with fail
  refine (kn1 (n : Int) true _ (decide_eq_true ⟨e4, e3⟩)).mono ?_
  rintro x w1 ⟨rfl, rfl⟩
  go_wp2_with fail
  refine (a_load ⟨g, n, none⟩ a _ hcell).mono ?_
  rintro x w2 ⟨rfl, rfl⟩
  go_wp2
  go_ret
  exact ⟨rfl, rfl⟩
set_option maxHeartbeats 4000000 in
theorem getBad (w : World) (g : Nat) (n : Int) (h : ¬ (0 ≤ n ∧ n < 17)) :
    Calls Tryd.prog 16 #[.pointer (some ⟨g, 0, none⟩), .int .i64 n] w fun x w' => x = .returned (.int .i64 0) ∧ w' = w := by
  have HK := hid (kn1 n false w (decide_eq_false h))
  clear h
  go_enter Tryd.func16, Tryd.ntmps16
  go_wp2_with fail
  refine HK.out.mono ?_
  rintro x w1 ⟨rfl, rfl⟩
  go_wp2
  go_ret
  exact ⟨rfl, rfl⟩
set_option maxHeartbeats 4000000 in
theorem name1 (w : World) (g n : Nat) (hn : n < 17) (ht : ∀ i, i < 17 → w.cell? ⟨0, i, none⟩ = some (.string (nm i))) :
    Calls Tryd.prog 9 #[.pointer (some ⟨g, 0, none⟩), .int .i64 n] w fun x w' => x = .returned (.string (nm n)) ∧ w' = w := by
  have hcell := ht n hn
  have e3 : (n : Int) < 17 := by omega
  have e4 : (0 : Int) ≤ n := by omega
  clear ht
  go_enter Tryd.func9, Tryd.ntmps9
  go_wp2_with fail
  refine (kn1 (n : Int) true _ (decide_eq_true ⟨e4, e3⟩)).mono ?_
  rintro x w1 ⟨rfl, rfl⟩
  go_wp2
  go_ret
  exact ⟨rfl, rfl⟩
set_option maxHeartbeats 4000000 in
theorem nameBad (w : World) (g : Nat) (n : Int) (h : ¬ (0 ≤ n ∧ n < 17)) :
    Calls Tryd.prog 9 #[.pointer (some ⟨g, 0, none⟩), .int .i64 n] w fun x w' => x = .returned (.string ⟨#[]⟩) ∧ w' = w := by
  have HK := hid (kn1 n false w (decide_eq_false h))
  clear h
  go_enter Tryd.func9, Tryd.ntmps9
  go_wp2_with fail
  refine HK.out.mono ?_
  rintro x w1 ⟨rfl, rfl⟩
  go_wp2
  go_ret
  exact ⟨rfl, rfl⟩
def zs : List Int := List.replicate 17 0
theorem bd0 : bd zs 0 0 0 (.map none) = #[.int .i64 0, .int .i64 0, .int .i64 0, .int .i64 0, .int .i64 0, .int .i64 0, .int .i64 0, .int .i64 0, .int .i64 0, .int .i64 0, .int .i64 0, .int .i64 0, .int .i64 0, .int .i64 0, .int .i64 0, .int .i64 0, .int .i64 0, .int .u32 0, .int .i32 0, .int .u32 0, .map none] := rfl
theorem zs_len : zs.length = 17 := rfl
theorem new_bd (w : World) : Ob (w.alloc (.cells #[.int .i64 0, .int .i64 0, .int .i64 0, .int .i64 0, .int .i64 0, .int .i64 0, .int .i64 0, .int .i64 0, .int .i64 0, .int .i64 0, .int .i64 0, .int .i64 0, .int .i64 0, .int .i64 0, .int .i64 0, .int .i64 0, .int .i64 0, .int .u32 0, .int .i32 0, .int .u32 0, .map none] 41)) w.heap.size 41 (bd zs 0 0 0 (.map none)) := by rw [bd0]; exact Ob.new _ _ _
theorem nm0 : nm 0 = ⟨#[102, 114, 97, 109, 101, 115, 32, 105, 110]⟩ := nm_eq 0
theorem nm11 : nm 11 = ⟨#[117, 100, 112, 32, 105, 110]⟩ := nm_eq 11
set_option maxRecDepth 100000 in
set_option maxHeartbeats 4000000 in
theorem known (w : World) (ht : ∀ i, i < 17 → w.cell? ⟨0, i, none⟩ = some (.string (nm i))) (h0 : 0 < w.heap.size) : Calls Tryd.prog 12 #[] w fun e w' => e = .returned (.bool true) ∧ Only [] w w' := by
  have OB := hid (new_bd w)
  have Q0 : Hid (Only [] w (w.alloc (.cells #[.int .i64 0, .int .i64 0, .int .i64 0, .int .i64 0, .int .i64 0, .int .i64 0, .int .i64 0, .int .i64 0, .int .i64 0, .int .i64 0, .int .i64 0, .int .i64 0, .int .i64 0, .int .i64 0, .int .i64 0, .int .i64 0, .int .i64 0, .int .u32 0, .int .i32 0, .int .u32 0, .map none] 41))) := hid ((Only.refl [] w).alloc _)
  have HT := hid ht; clear ht
  have hg0 : w.heap.size ≠ 0 := by omega
  go_enter Tryd.func12, Tryd.ntmps12
  go_wp2_with fail
  refine (add1 _ w.heap.size zs zs_len 0 0 0 (.map none) 3 (by omega) 5 0 rfl (by omega) (by omega) OB.out).mono ?_
  rintro x w1 ⟨rfl, hb1, o1⟩
  have OB1 := hid hb1; have Q1 := hid (Q0.out.fresh o1 (fun i hi => .inr (by simp at hi; omega))); clear hb1 o1
  go_wp2_with fail
  refine (get1 _ w.heap.size (zs.set 3 5) rfl 0 0 0 (.map none) 3 (by omega) 5 rfl (by omega) OB1.out).mono ?_
  rintro x w2 ⟨rfl, rfl⟩
  go_wp2_with fail
  refine (num0 _ w.heap.size (zs.set 3 5) rfl 0 (.map none) _ OB1.out (fun i hi => (Q1.out.keep (HT.out i hi))) hg0 (Nat.lt_of_lt_of_le h0 Q1.out.size)).mono ?_
  rintro x w3 ⟨v, rfl, hv, hbu, o3⟩
  obtain rfl : v = 11 := hv.eq (.inl ⟨11, by omega, nm11, rfl⟩)
  have Q3 := hid (Q1.out.fresh o3 (fun i hi => .inr (by simp at hi; omega))); clear hbu o3 hv
  go_wp2_with fail
  refine (name1 _ w.heap.size 0 (by omega) (fun i hi => (Q3.out.keep (HT.out i hi)))).mono ?_
  rw [nm0]
  rintro x w4 ⟨rfl, rfl⟩
  go_wp2
  go_ret
  exact ⟨rfl, Q3.out⟩
end Go.Proofs.YtlhbklbmaoekmaaDoor.tal
