/-
  Chapter 2 (tally): a law: each counter has its name, and each name its counter. Conditions: none but those typed.
-/
import Derived.Test.YtlhbklbmaoekmaaDoorTalF
import Derived.Test.YtlhbklbmaoekmaaDoorRgt
import Derived.Laws.StructEq
namespace Go.Proofs.YtlhbklbmaoekmaaDoor.tal
set_option linter.unusedVariables false
set_option linter.unusedSimpArgs false
open Go.ChangeShapes Go.WideShapes Go.ChangeAt Go.RowKit Go.IntWalk Go.Lib
theorem sbeq {a b : ByteArray} (h : a = b) : (a == b) = true := (MapKept.bytes_beq a b).2 h
theorem sbne {a b : ByteArray} (h : ¬ a = b) : (a == b) = false := by
  cases hb : (a == b) with
  | false => rfl
  | true => exact absurd ((MapKept.bytes_beq a b).1 hb) h
/-- A fresh board, or one whose table is there. -/
def BS (w : World) (g : Nat) : Prop := (Ob w g 41 (bd zs 0 0 0 (.map none)) ∨ Built w g zs 0)
theorem BS.only {w w' : World} {g : Nat} (h : BS w g) (o : Only [] w w') : BS w' g := by
  rcases h with h | ⟨r, h1, h2, h3⟩
  · exact .inl (h.only o (by simp))
  · exact .inr ⟨r, h1.only o (by simp), heap_keep h2 o (by simp), h3⟩
theorem BS.lt {w : World} {g : Nat} (h : BS w g) : g < w.heap.size := by
  rcases h with h | ⟨r, h1, _, _⟩
  · exact h.lt
  · exact h1.lt
theorem numAny (w : World) (g : Nat) (s : ByteArray) (hb : BS w g) (ht : ∀ i, i < 17 → w.cell? ⟨0, i, none⟩ = some (.string (nm i))) (hg0 : g ≠ 0) (h0 : 0 < w.heap.size) :
    Calls Tryd.prog 10 #[.pointer (some ⟨g, 0, none⟩), .string s] w fun x w' => ∃ v, x = .returned (.int .i64 v) ∧ NumIs s v ∧ BS w' g ∧ Only [g] w w' := by
  rcases hb with h | h
  · refine (num0 w g zs rfl 0 (.map none) s h ht hg0 h0).mono ?_
    rintro x w' ⟨v, rfl, h1, h2, h3⟩
    exact ⟨v, rfl, h1, .inr h2, h3⟩
  · refine (num1 w g zs rfl 0 s h).mono ?_
    rintro x w' ⟨v, rfl, h1, rfl⟩
    exact ⟨v, rfl, h1, .inr h, Only.refl _ _⟩
theorem count1 (w : World) : Calls Tryd.prog 11 #[] w fun x w' => x = .returned (.int .i64 17) ∧ w' = w := by
  go_enter Tryd.func11, Tryd.ntmps11
  go_wp2
  go_ret
  exact ⟨rfl, rfl⟩
theorem names1 (w : World) : Calls Tryd.prog 8 #[] w fun x w' => x = .returned (.slice (some ⟨w.heap.size, 0, none⟩) 17 17) ∧ (∀ i, i < 17 → w'.cell? ⟨w.heap.size, i, none⟩ = some (.string (nm i))) ∧ Only [] w w' := by
  have Q : Hid (Only [] w (w.alloc (.cells #[.string ⟨#[102, 114, 97, 109, 101, 115, 32, 105, 110]⟩, .string ⟨#[102, 114, 97, 109, 101, 115, 32, 111, 117, 116]⟩, .string ⟨#[110, 111, 116, 32, 111, 117, 114, 115]⟩, .string ⟨#[109, 97, 108, 102, 111, 114, 109, 101, 100]⟩, .string ⟨#[97, 114, 112, 32, 97, 115, 107, 101, 100]⟩, .string ⟨#[97, 114, 112, 32, 108, 111, 115, 116]⟩, .string ⟨#[102, 114, 97, 103, 109, 101, 110, 116, 115]⟩, .string ⟨#[112, 117, 116, 32, 116, 111, 103, 101, 116, 104, 101, 114]⟩, .string ⟨#[110, 111, 116, 32, 114, 111, 117, 116, 101, 100]⟩, .string ⟨#[105, 99, 109, 112, 32, 116, 111, 108, 100]⟩, .string ⟨#[105, 99, 109, 112, 32, 104, 101, 108, 100]⟩, .string ⟨#[117, 100, 112, 32, 105, 110]⟩, .string ⟨#[117, 100, 112, 32, 110, 111, 32, 112, 111, 114, 116]⟩, .string ⟨#[116, 99, 112, 32, 105, 110]⟩, .string ⟨#[116, 99, 112, 32, 115, 101, 110, 116, 32, 97, 103, 97, 105, 110]⟩, .string ⟨#[116, 99, 112, 32, 114, 101, 115, 101, 116]⟩, .string ⟨#[100, 114, 111, 112, 112, 101, 100, 32, 102, 117, 108, 108]⟩] 9))) := hid ((Only.refl [] w).alloc _)
  have HC : Hid (∀ i, i < 17 → (w.alloc (.cells #[.string ⟨#[102, 114, 97, 109, 101, 115, 32, 105, 110]⟩, .string ⟨#[102, 114, 97, 109, 101, 115, 32, 111, 117, 116]⟩, .string ⟨#[110, 111, 116, 32, 111, 117, 114, 115]⟩, .string ⟨#[109, 97, 108, 102, 111, 114, 109, 101, 100]⟩, .string ⟨#[97, 114, 112, 32, 97, 115, 107, 101, 100]⟩, .string ⟨#[97, 114, 112, 32, 108, 111, 115, 116]⟩, .string ⟨#[102, 114, 97, 103, 109, 101, 110, 116, 115]⟩, .string ⟨#[112, 117, 116, 32, 116, 111, 103, 101, 116, 104, 101, 114]⟩, .string ⟨#[110, 111, 116, 32, 114, 111, 117, 116, 101, 100]⟩, .string ⟨#[105, 99, 109, 112, 32, 116, 111, 108, 100]⟩, .string ⟨#[105, 99, 109, 112, 32, 104, 101, 108, 100]⟩, .string ⟨#[117, 100, 112, 32, 105, 110]⟩, .string ⟨#[117, 100, 112, 32, 110, 111, 32, 112, 111, 114, 116]⟩, .string ⟨#[116, 99, 112, 32, 105, 110]⟩, .string ⟨#[116, 99, 112, 32, 115, 101, 110, 116, 32, 97, 103, 97, 105, 110]⟩, .string ⟨#[116, 99, 112, 32, 114, 101, 115, 101, 116]⟩, .string ⟨#[100, 114, 111, 112, 112, 101, 100, 32, 102, 117, 108, 108]⟩] 9)).cell? ⟨w.heap.size, i, none⟩ = some (.string (nm i))) := hid (fun i hi => by
    have h9 := (Ob.new w 9 #[.string ⟨#[102, 114, 97, 109, 101, 115, 32, 105, 110]⟩, .string ⟨#[102, 114, 97, 109, 101, 115, 32, 111, 117, 116]⟩, .string ⟨#[110, 111, 116, 32, 111, 117, 114, 115]⟩, .string ⟨#[109, 97, 108, 102, 111, 114, 109, 101, 100]⟩, .string ⟨#[97, 114, 112, 32, 97, 115, 107, 101, 100]⟩, .string ⟨#[97, 114, 112, 32, 108, 111, 115, 116]⟩, .string ⟨#[102, 114, 97, 103, 109, 101, 110, 116, 115]⟩, .string ⟨#[112, 117, 116, 32, 116, 111, 103, 101, 116, 104, 101, 114]⟩, .string ⟨#[110, 111, 116, 32, 114, 111, 117, 116, 101, 100]⟩, .string ⟨#[105, 99, 109, 112, 32, 116, 111, 108, 100]⟩, .string ⟨#[105, 99, 109, 112, 32, 104, 101, 108, 100]⟩, .string ⟨#[117, 100, 112, 32, 105, 110]⟩, .string ⟨#[117, 100, 112, 32, 110, 111, 32, 112, 111, 114, 116]⟩, .string ⟨#[116, 99, 112, 32, 105, 110]⟩, .string ⟨#[116, 99, 112, 32, 115, 101, 110, 116, 32, 97, 103, 97, 105, 110]⟩, .string ⟨#[116, 99, 112, 32, 114, 101, 115, 101, 116]⟩, .string ⟨#[100, 114, 111, 112, 112, 101, 100, 32, 102, 117, 108, 108]⟩]).cell i
    rw [h9]
    rcases (show i = 0 ∨ i = 1 ∨ i = 2 ∨ i = 3 ∨ i = 4 ∨ i = 5 ∨ i = 6 ∨ i = 7 ∨ i = 8 ∨ i = 9 ∨ i = 10 ∨ i = 11 ∨ i = 12 ∨ i = 13 ∨ i = 14 ∨ i = 15 ∨ i = 16 by omega) with rfl | rfl | rfl | rfl | rfl | rfl | rfl | rfl | rfl | rfl | rfl | rfl | rfl | rfl | rfl | rfl | rfl <;> (rw [nm_eq]; rfl))
  go_enter Tryd.func8, Tryd.ntmps8
  go_wp2
  go_ret
  exact ⟨rfl, HC.out, Q.out⟩
def WantUp (s : ByteArray) (k : Nat) (v : Int) : Prop := (∃ j : Nat, j < k ∧ nm j = s ∧ v = (j : Int)) ∨ ((∀ j, j < k → nm j ≠ s) ∧ v = -1)
theorem WantUp.hit {s : ByteArray} {k : Nat} (h : nm k = s) : WantUp s (k + 1) (k : Int) := .inl ⟨k, by omega, h, rfl⟩
theorem WantUp.miss {s : ByteArray} {k : Nat} {v : Int} (h : WantUp s k v) (hn : ¬ nm k = s) : WantUp s (k + 1) v := by
  rcases h with ⟨j, h1, h2, h3⟩ | ⟨h1, h2⟩
  · exact .inl ⟨j, by omega, h2, h3⟩
  · exact .inr ⟨fun j hj => by
      rcases Nat.lt_or_ge j k with h | h
      · exact h1 j h
      · obtain rfl : j = k := by omega
        exact hn, h2⟩
set_option maxRecDepth 100000 in
set_option maxHeartbeats 8000000 in
theorem namesLaw (w : World) (n : Int) (s : ByteArray) (ht : ∀ i, i < 17 → w.cell? ⟨0, i, none⟩ = some (.string (nm i))) (h0 : 0 < w.heap.size) : Calls Tryd.prog 3 #[.int .i64 n, .string s] w fun e w' => e = .returned (.bool true) ∧ Only [] w w' := by
  have HT := hid ht; clear ht
  by_cases hlen : 200 < s.size
  · have h1 : (200 : Int) < s.size := by omega
    go_enter Tryd.func3, Tryd.ntmps3
    go_wp2
    go_ret
    exact ⟨rfl, Only.refl _ _⟩
  · have h1 : ¬ (200 : Int) < s.size := by omega
    have OB := hid (new_bd w)
    have Q0 : Hid (Only [] w (w.alloc (.cells #[.int .i64 0, .int .i64 0, .int .i64 0, .int .i64 0, .int .i64 0, .int .i64 0, .int .i64 0, .int .i64 0, .int .i64 0, .int .i64 0, .int .i64 0, .int .i64 0, .int .i64 0, .int .i64 0, .int .i64 0, .int .i64 0, .int .i64 0, .int .u32 0, .int .i32 0, .int .u32 0, .map none] 41))) := hid ((Only.refl [] w).alloc _)
    have hgw : w.heap.size < (w.alloc (.cells #[.int .i64 0, .int .i64 0, .int .i64 0, .int .i64 0, .int .i64 0, .int .i64 0, .int .i64 0, .int .i64 0, .int .i64 0, .int .i64 0, .int .i64 0, .int .i64 0, .int .i64 0, .int .i64 0, .int .i64 0, .int .i64 0, .int .i64 0, .int .u32 0, .int .i32 0, .int .u32 0, .map none] 41)).heap.size := OB.out.lt
    go_enter Tryd.func3, Tryd.ntmps3
    go_wp2_with fail
    generalize w.alloc (.cells #[.int .i64 0, .int .i64 0, .int .i64 0, .int .i64 0, .int .i64 0, .int .i64 0, .int .i64 0, .int .i64 0, .int .i64 0, .int .i64 0, .int .i64 0, .int .i64 0, .int .i64 0, .int .i64 0, .int .i64 0, .int .i64 0, .int .i64 0, .int .u32 0, .int .i32 0, .int .u32 0, .map none] 41) = W1 at *
    obtain ⟨g, hgd⟩ : ∃ g, g = w.heap.size := ⟨_, rfl⟩
    have HGD := hid hgd
    have hg0 : g ≠ 0 := by omega
    have hgle : w.heap.size ≤ g := by omega
    rw [← hgd] at OB hgw
    rw [← hgd]
    clear hgd
    refine (names1 W1).mono ?_
    rintro x w2 ⟨rfl, hc2, o2⟩
    obtain ⟨rb, hrbd⟩ : ∃ r, r = W1.heap.size := ⟨_, rfl⟩
    rw [← hrbd] at hc2
    rw [← hrbd]
    have hgrb : g < rb := by rw [hrbd]; exact hgw
    have HC := hid hc2
    have hrb : rb < w2.heap.size := block_lt_of_cell (hc2 0 (by omega))
    have HBS : Hid (BS w2 g) := hid (.inl (OB.out.only o2 (by simp)))
    have HQw := hid (Q0.out.trans o2)
    clear hc2 o2 hrbd OB Q0
    go_wp2_with fail
    go_loopw [7] (fun i wr => ∃ (k : Nat), k ≤ 17 ∧ i = .int .i64 k ∧ Hid (BS wr g) ∧ Hid (Only [] w wr) ∧ Hid (Only [g] w2 wr)) (fun i _ => 17 - (RowKit.intOf i).toNat)
    case atStart => exact ⟨0, by omega, rfl, HBS, HQw, hid (Only.refl _ _)⟩
    case round =>
      obtain ⟨k, hk, rfl, HBS, HQw, HQ2⟩ := hrel
      by_cases hlt : k < 17
      · have hlt2 : (k : Int) < 17 := by omega
        go_wp2_with fail
        refine wp_region_noPanic ?_
        refine rgn.regionT (R := Only [g]) (by kernel_rfl) (Only.refl [g]) (fun _ _ _ => Only.trans) (fun _ _ _ _ _ h => h) (.y 0 (.y 1 (.y 3 (.y 4 (.y 5 (.y 6 (.e 2 (.y 7 (.y 8 (.y 9 (.y 10 (.y 11 (.y 12 (.y 13 (.y 15 (.e 14 (.y 16 (.y 17 .z)))))))))))))))))) (by kernel_rfl) (fun W hWd => ?_)
        have HWd := hid hWd; clear hWd
        have HBS := hid (HBS.out.only ((Only.refl [] _).eq_drew HWd.out)); have HQw := hid (HQw.out.eq_drew HWd.out); have HQ2 := hid (HQ2.out.eq_drew HWd.out)
        clear HWd
        have hrbW : rb < W.heap.size := Nat.lt_of_lt_of_le hrb HQ2.out.size
        have cW : W.cell? ⟨rb, k, none⟩ = some (.string (nm k)) := (HQ2.out.cell (p := ⟨rb, k, none⟩) hrb (by simp; omega)).trans (HC.out k hlt)
        refine rgn.Walk.ys (v := ?_) rfl rfl rfl ?_ ?_
        rotate_left 1
        · intro W' hW'
          go_simp
          try with_reducible rfl
        try simp only [Act.put, List.setIfInBounds_toArray, List.set_cons_zero, List.set_cons_succ]
        refine rgn.Walk.ys (v := ?_) rfl rfl rfl ?_ ?_
        rotate_left 1
        · intro W' hW'
          go_simp
          try with_reducible rfl
        try simp only [Act.put, List.setIfInBounds_toArray, List.set_cons_zero, List.set_cons_succ]
        refine rgn.Walk.ys (v := ?_) rfl rfl rfl ?_ ?_
        rotate_left 1
        · intro W' hW'
          go_simp
          try with_reducible rfl
        try simp only [Act.put, List.setIfInBounds_toArray, List.set_cons_zero, List.set_cons_succ]
        refine rgn.Walk.ys (v := ?_) rfl rfl rfl ?_ ?_
        rotate_left 1
        · intro W' hW'
          go_simp
          try with_reducible rfl
        try simp only [Act.put, List.setIfInBounds_toArray, List.set_cons_zero, List.set_cons_succ]
        refine rgn.Walk.ys (v := ?_) rfl rfl rfl ?_ ?_
        rotate_left 1
        · intro W' hW'
          go_simp
          try with_reducible rfl
        try simp only [Act.put, List.setIfInBounds_toArray, List.set_cons_zero, List.set_cons_succ]
        refine rgn.Walk.ys (v := ?_) rfl rfl rfl ?_ ?_
        rotate_left 1
        · intro W' hW'
          have q1 : W'.cell? ⟨rb, k, none⟩ = some (.string (nm k)) := (hW'.cell (p := ⟨rb, k, none⟩) hrbW (by simp; omega)).trans cW
          go_simp
          try with_reducible rfl
        try simp only [Act.put, List.setIfInBounds_toArray, List.set_cons_zero, List.set_cons_succ]
        refine rgn.Walk.es ?_
        refine rgn.stepE rfl rfl (fun K hK => ?_)
        go_simp
        refine (name1 _ g k hlt (fun i hi => HQw.out.keep (HT.out i hi))).mono ?_
        rintro x w3 ⟨rfl, rfl⟩
        refine hK _ _ (Only.refl [g] _) ?_
        clear hK K
        try simp only [Act.put, List.setIfInBounds_toArray, List.set_cons_zero, List.set_cons_succ]
        refine rgn.Walk.ys (v := ?_) rfl rfl rfl ?_ ?_
        rotate_left 1
        · intro W' hW'
          go_simp
          try with_reducible rfl
        try simp only [Act.put, List.setIfInBounds_toArray, List.set_cons_zero, List.set_cons_succ]
        refine rgn.Walk.ys (v := ?_) rfl rfl rfl ?_ ?_
        rotate_left 1
        · intro W' hW'
          go_simp
          try with_reducible rfl
        try simp only [Act.put, List.setIfInBounds_toArray, List.set_cons_zero, List.set_cons_succ]
        refine rgn.Walk.ys (v := ?_) rfl rfl rfl ?_ ?_
        rotate_left 1
        · intro W' hW'
          go_simp
          try with_reducible rfl
        try simp only [Act.put, List.setIfInBounds_toArray, List.set_cons_zero, List.set_cons_succ]
        refine rgn.Walk.ys (v := ?_) rfl rfl rfl ?_ ?_
        rotate_left 1
        · intro W' hW'
          go_simp
          try with_reducible rfl
        try simp only [Act.put, List.setIfInBounds_toArray, List.set_cons_zero, List.set_cons_succ]
        refine rgn.Walk.ys (v := ?_) rfl rfl rfl ?_ ?_
        rotate_left 1
        · intro W' hW'
          go_simp
          try with_reducible rfl
        try simp only [Act.put, List.setIfInBounds_toArray, List.set_cons_zero, List.set_cons_succ]
        refine rgn.Walk.ys (v := ?_) rfl rfl rfl ?_ ?_
        rotate_left 1
        · intro W' hW'
          go_simp
          try with_reducible rfl
        try simp only [Act.put, List.setIfInBounds_toArray, List.set_cons_zero, List.set_cons_succ]
        refine rgn.Walk.ys (v := ?_) rfl rfl rfl ?_ ?_
        rotate_left 1
        · intro W' hW'
          have q1 : W'.cell? ⟨rb, k, none⟩ = some (.string (nm k)) := (hW'.cell (p := ⟨rb, k, none⟩) hrbW (by simp; omega)).trans cW
          go_simp
          try with_reducible rfl
        try simp only [Act.put, List.setIfInBounds_toArray, List.set_cons_zero, List.set_cons_succ]
        refine rgn.Walk.ys (v := ?_) rfl rfl rfl ?_ ?_
        rotate_left 1
        · intro W' hW'
          go_simp
          try with_reducible rfl
        try simp only [Act.put, List.setIfInBounds_toArray, List.set_cons_zero, List.set_cons_succ]
        refine rgn.Walk.es ?_
        refine rgn.stepE rfl rfl (fun K hK => ?_)
        go_simp
        refine (numAny _ g (nm k) HBS.out (fun i hi => HQw.out.keep (HT.out i hi)) hg0 (Nat.lt_of_lt_of_le h0 HQw.out.size)).mono ?_
        rintro x w4 ⟨v, rfl, hv, hbu, o4⟩
        obtain rfl : v = (k : Int) := hv.eq (.inl ⟨k, hlt, rfl, rfl⟩)
        refine hK _ _ o4 ?_
        clear hK K
        try simp only [Act.put, List.setIfInBounds_toArray, List.set_cons_zero, List.set_cons_succ]
        have HBS := hid hbu; have HQw := hid (HQw.out.fresh o4 (fun i hi => .inr (by simp at hi; omega))); have HQ2 := hid (HQ2.out.trans o4)
        clear hv hbu o4
        refine rgn.Walk.ys (v := ?_) rfl rfl rfl ?_ ?_
        rotate_left 1
        · intro W' hW'
          go_simp
          try with_reducible rfl
        try simp only [Act.put, List.setIfInBounds_toArray, List.set_cons_zero, List.set_cons_succ]
        refine rgn.Walk.ys (v := ?_) rfl rfl rfl ?_ ?_
        rotate_left 1
        · intro W' hW'
          go_simp
          try with_reducible rfl
        try simp only [Act.put, List.setIfInBounds_toArray, List.set_cons_zero, List.set_cons_succ]
        refine rgn.Walk.zs (NoPanic.normal ?_)
        go_wp2
        go_roundw
        case rel => exact ⟨k + 1, by omega, by go_num, HBS, HQw, HQ2⟩
        case measure => simp [RowKit.intOf]; omega
      · obtain rfl : k = 17 := by omega
        go_wp2_with fail
        go_loopw [8, 9] (fun v i wr => ∃ (k : Nat) (v' : Int), k ≤ 17 ∧ i = .int .i64 k ∧ v = .int .i64 v' ∧ Hid (WantUp s k v') ∧ Hid (BS wr g) ∧ Hid (Only [] w wr) ∧ Hid (Only [g] w2 wr)) (fun _ i _ => 17 - (RowKit.intOf i).toNat)
        case atStart => exact ⟨0, -1, by omega, rfl, rfl, hid (.inr ⟨fun j hj => absurd hj (by omega), rfl⟩), HBS, HQw, HQ2⟩
        case round =>
          obtain ⟨k, v, hk, rfl, rfl, HWU, HBS, HQw, HQ2⟩ := hrel
          by_cases hlt : k < 17
          · have hlt2 : (k : Int) < 17 := by omega
            have cW : wr.cell? ⟨rb, k, none⟩ = some (.string (nm k)) := (HQ2.out.cell (p := ⟨rb, k, none⟩) hrb (by simp; omega)).trans (HC.out k hlt)
            by_cases hs : nm k = s
            · have e1 : (nm k == s) = true := sbeq hs
              have HN := hid (WantUp.hit hs)
              go_wp2
              go_roundw
              case rel => exact ⟨k + 1, k, by omega, by go_num, by go_num, HN, HBS, HQw, HQ2⟩
              case measure => simp [RowKit.intOf]; omega
            · have e1 : ((nm k).toList == s.toList) = false := by rw [← beq_toListBytes]; exact sbne hs
              have HN := hid (HWU.out.miss hs)
              go_wp2
              go_roundw
              case rel => exact ⟨k + 1, v, by omega, by go_num, by go_num, HN, HBS, HQw, HQ2⟩
              case measure => simp [RowKit.intOf]; omega
          · obtain rfl : k = 17 := by omega
            by_cases hn : 0 ≤ n ∧ n < 17
            · obtain ⟨j, rfl⟩ := Int.eq_ofNat_of_zero_le hn.1
              have hj : j < 17 := by omega
              have hj1 : (0 : Int) ≤ j := by omega
              have hj2 : (j : Int) < 17 := by omega
              have cW : wr.cell? ⟨rb, j, none⟩ = some (.string (nm j)) := (HQ2.out.cell (p := ⟨rb, j, none⟩) hrb (by simp; omega)).trans (HC.out j hj)
              clear hn
              go_wp2_with fail
              refine (count1 _).mono ?_
              rintro x w5 ⟨rfl, rfl⟩
              go_wp2_with fail
              refine (numAny _ g s HBS.out (fun i hi => HQw.out.keep (HT.out i hi)) hg0 (Nat.lt_of_lt_of_le h0 HQw.out.size)).mono ?_
              rintro x w6 ⟨v2, rfl, hv2, hbu2, o6⟩
              obtain rfl : v2 = v := hv2.eq HWU.out
              have HQw := hid (HQw.out.fresh o6 (fun i hi => .inr (by simp at hi; omega)))
              clear hv2 hbu2 o6
              go_wp2_with fail
              refine (name1 _ g j hj (fun i hi => HQw.out.keep (HT.out i hi))).mono ?_
              rintro x w7 ⟨rfl, rfl⟩
              go_wp2_with fail
              refine (known _ (fun i hi => HQw.out.keep (HT.out i hi)) (Nat.lt_of_lt_of_le h0 HQw.out.size)).mono ?_
              rintro x w8 ⟨rfl, o8⟩
              have HQ8 := hid (HQw.out.trans o8); clear o8
              go_wp2
              go_ret
              exact ⟨rfl, HQ8.out⟩
            · have HNB := hid (nameBad · g n hn)
              rcases (show n < 0 ∨ (0 ≤ n ∧ 17 ≤ n) by omega) with h5 | ⟨h5, h6⟩
              · have h7 : ¬ 0 ≤ n := by omega
                clear hn
                go_wp2_with fail
                refine (count1 _).mono ?_
                rintro x w5 ⟨rfl, rfl⟩
                go_wp2_with fail
                refine (numAny _ g s HBS.out (fun i hi => HQw.out.keep (HT.out i hi)) hg0 (Nat.lt_of_lt_of_le h0 HQw.out.size)).mono ?_
                rintro x w6 ⟨v2, rfl, hv2, hbu2, o6⟩
                obtain rfl : v2 = v := hv2.eq HWU.out
                have HQw := hid (HQw.out.fresh o6 (fun i hi => .inr (by simp at hi; omega)))
                clear hv2 hbu2 o6
                go_wp2_with fail
                refine (HNB.out _).mono ?_
                rintro x w7 ⟨rfl, rfl⟩
                go_wp2_with fail
                refine (known _ (fun i hi => HQw.out.keep (HT.out i hi)) (Nat.lt_of_lt_of_le h0 HQw.out.size)).mono ?_
                rintro x w8 ⟨rfl, o8⟩
                have HQ8 := hid (HQw.out.trans o8); clear o8
                go_wp2
                go_ret
                exact ⟨rfl, HQ8.out⟩
              · have h7 : ¬ n < 17 := by omega
                clear hn
                go_wp2_with fail
                refine (count1 _).mono ?_
                rintro x w5 ⟨rfl, rfl⟩
                go_wp2_with fail
                refine (numAny _ g s HBS.out (fun i hi => HQw.out.keep (HT.out i hi)) hg0 (Nat.lt_of_lt_of_le h0 HQw.out.size)).mono ?_
                rintro x w6 ⟨v2, rfl, hv2, hbu2, o6⟩
                obtain rfl : v2 = v := hv2.eq HWU.out
                have HQw := hid (HQw.out.fresh o6 (fun i hi => .inr (by simp at hi; omega)))
                clear hv2 hbu2 o6
                go_wp2_with fail
                refine (HNB.out _).mono ?_
                rintro x w7 ⟨rfl, rfl⟩
                go_wp2_with fail
                refine (known _ (fun i hi => HQw.out.keep (HT.out i hi)) (Nat.lt_of_lt_of_le h0 HQw.out.size)).mono ?_
                rintro x w8 ⟨rfl, o8⟩
                have HQ8 := hid (HQw.out.trans o8); clear o8
                go_wp2
                go_ret
                exact ⟨rfl, HQ8.out⟩
end Go.Proofs.YtlhbklbmaoekmaaDoor.tal
