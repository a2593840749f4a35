/-
  Chapter 14 (segment): any bytes are a segment, or refused for the first reason of all, by a walk of its text. Conditions: none but those typed.
-/
import Derived.Test.YtkpdgfimibmoeaaSegDb
namespace Go.Proofs.Ytkpdgfimibmoeaa.seg
set_option linter.unusedVariables false
set_option linter.unusedSimpArgs false
open Go.ChangeShapes Go.WideShapes Go.ChangeAt Go.RowKit Go.IntWalk Go.Lib
set_option maxRecDepth 100000 in
set_option maxHeartbeats 4000000 in
/-- Two segments that are alike. -/
theorem segs1 (w : World) (f0 f1 f2 f3 f4 f5 f6 f7 f8 f9 : Int) (A B : Option Addr) (n m cA cB : Nat) (x : List Int) (hx : Rd .u8 w A n x) (hy : Rd .u8 w B m x) (hn : n ≤ 140737488355328) (hm : m ≤ 140737488355328) :
    Calls Try.prog 18 #[.agg #[.int .u32 f0, .int .i64 f1, .int .u32 f2, .int .i64 f3, .int .u32 f4, .int .u32 f5, .int .i64 f6, .int .i64 f7, .int .i64 f8, .int .i64 f9, .slice A n cA], .agg #[.int .u32 f0, .int .i64 f1, .int .u32 f2, .int .i64 f3, .int .u32 f4, .int .u32 f5, .int .i64 f6, .int .i64 f7, .int .i64 f8, .int .i64 f9, .slice B m cB]] w fun e w' => e = .returned (.bool true) ∧ Only [] w w' := by
  have HX := hid hx; have HY := hid hy; clear hx hy
  have HB : Hid (Only [] w ((w.alloc (.cells #[.int .u32 f0, .int .i64 f1, .int .u32 f2, .int .i64 f3, .int .u32 f4, .int .u32 f5, .int .i64 f6, .int .i64 f7, .int .i64 f8, .int .i64 f9, .slice A n cA] 26)).alloc (.cells #[.int .u32 f0, .int .i64 f1, .int .u32 f2, .int .i64 f3, .int .u32 f4, .int .u32 f5, .int .i64 f6, .int .i64 f7, .int .i64 f8, .int .i64 f9, .slice B m cB] 26))) := hid (((Only.refl [] w).alloc _).alloc _)
  go_enter Try.func18, Try.ntmps18
  go_wp2_with fail
  refine (callsOnly (hlp.same _ A B n m cA cB x x (HX.out.only_nil HB.out) (HY.out.only_nil HB.out) hn hm)).mono ?_
  rintro e w3 ⟨rfl, o3⟩
  rw [show decide (x = x) = true from by simp]
  have HB := hid (HB.out.trans o3); clear o3
  go_wp2
  go_ret
  exact ⟨rfl, HB.out⟩
theorem dGs_form (fr to : Int) (l : List Int) : ∃ f0 f1 f2 f3 f4 f5 f6 f7 f8 f9 : Int, ∀ v, dGs fr to l v = .agg #[.int .u32 f0, .int .i64 f1, .int .u32 f2, .int .i64 f3, .int .u32 f4, .int .u32 f5, .int .i64 f6, .int .i64 f7, .int .i64 f8, .int .i64 f9, v] := by
  by_cases hz : dEr fr to l = 0
  · cases hro : ropO (optS l) with
    | none => exact ⟨_, _, _, _, _, _, _, _, _, _, fun v => by unfold dGs; rw [if_pos hz, hro]⟩
    | some q => obtain ⟨a, b⟩ := q; exact ⟨_, _, _, _, _, _, _, _, _, _, fun v => by unfold dGs; rw [if_pos hz, hro]⟩
  · exact ⟨_, _, _, _, _, _, _, _, _, _, fun v => by unfold dGs; rw [if_neg hz]⟩
set_option maxRecDepth 100000 in
set_option maxHeartbeats 4000000 in
theorem decodesLaw (w : World) (fr to : Int) (A : Option Addr) (n c : Nat) (l : List Int) (hl : Rd .u8 w A n l) (hc0 : A = none → c = 0) (hnc : n ≤ c) (hcm : c ≤ 9223372036854775807) :
    Calls Try.prog 4 #[.int .u32 fr, .int .u32 to, .slice A n c] w (fun e w' => e = .returned (.bool true) ∧ Only [] w w') := by
  by_cases hn : n > 70000
  · have h1 : (n : Int) > 70000 := by omega
    go_enter Try.func4, Try.ntmps4
    go_wp2
    go_ret
    exact ⟨rfl, Only.refl _ _⟩
  · have h1 : ¬ (n : Int) > 70000 := by omega
    have HLen := hid hl.len
    have HL := hid hl; clear hl
    have HC := hid hc0; clear hc0
    go_enter Try.func4, Try.ntmps4
    go_wp2_with fail
    refine (hlp.roomy w A n c l HL.out HC.out (by omega)).mono ?_
    rintro x w1 ⟨g, cap, rfl, hv, o1⟩
    have hcap := hv.len
    have hgb := hv.base_le
    have hcapm : cap ≤ 9223372036854775807 := by have h := hcap.2.2; simp only [maxLen] at h; omega
    have HV := hid hv; have HB := hid o1; clear hv o1
    have HPT : Hid (∀ W : World, Own .u8 5 W w.heap.size (.slice (some ⟨g, 0, none⟩) (n + 1) cap) (l ++ [171]) → Rd .u8 W (some ⟨g, 0, none⟩) n l) := hid (fun W h => by
      have h5 := h.rd.take n (by omega)
      rwa [List.take_append_of_le_length (by rw [HLen.out]; exact Nat.le_refl _), List.take_of_length_le (by rw [HLen.out]; exact Nat.le_refl _)] at h5)
    have hncap : (n : Int) ≤ cap := by omega
    go_wp2_with fail
    refine (decAny w1 fr to (some ⟨g, 0, none⟩) n cap l (HPT.out _ HV.out) (by simp) (by omega) hcapm (by omega)).mono ?_
    rintro x w2 ⟨v2, rfl, hv2, o2⟩
    have HV := hid (HV.out.only_nil o2); have HB := hid (HB.out.trans o2); have hs12 : w1.heap.size ≤ w2.heap.size := o2.size; have hs01 := HB.out.size
    obtain ⟨f0, f1, f2, f3, f4, f5, f6, f7, f8, f9, hgd⟩ := dGs_form fr to l
    rw [hgd]
    have HG2 := hid hgd; clear hgd
    obtain ⟨A2, cap2, ev2, hc2, hm2, r2, hb2⟩ := hv2.slice
    have HDL : Hid ((dDs fr to l).length ≤ 70000) := hid (by
      unfold dDs
      split
      · rw [List.length_drop, HLen.out]; omega
      · simp)
    have HV2 := hid hv2; have R2 := hid r2
    have hvb := fun i hi => (hv2.lt i hi).1
    subst ev2
    clear hv2 o2 r2 hb2
    have HOA : Hid (Ob (w2.alloc (.cells #[.int .u32 f0, .int .i64 f1, .int .u32 f2, .int .i64 f3, .int .u32 f4, .int .u32 f5, .int .i64 f6, .int .i64 f7, .int .i64 f8, .int .i64 f9, .slice A2 (dDs fr to l).length cap2] 26)) w2.heap.size 26 #[.int .u32 f0, .int .i64 f1, .int .u32 f2, .int .i64 f3, .int .u32 f4, .int .u32 f5, .int .i64 f6, .int .i64 f7, .int .i64 f8, .int .i64 f9, .slice A2 (dDs fr to l).length cap2]) := hid (Ob.new _ _ _)
    have oa : Only [] w2 (w2.alloc (.cells #[.int .u32 f0, .int .i64 f1, .int .u32 f2, .int .i64 f3, .int .u32 f4, .int .u32 f5, .int .i64 f6, .int .i64 f7, .int .i64 f8, .int .i64 f9, .slice A2 (dDs fr to l).length cap2] 26)) := (Only.refl _ _).alloc _
    have HV := hid (HV.out.only_nil oa); have HB := hid (HB.out.trans oa); have HV2 := hid (HV2.out.only_nil oa); have R2 := hid (R2.out.only_nil oa)
    generalize hW3 : w2.alloc (.cells #[.int .u32 f0, .int .i64 f1, .int .u32 f2, .int .i64 f3, .int .u32 f4, .int .u32 f5, .int .i64 f6, .int .i64 f7, .int .i64 f8, .int .i64 f9, .slice A2 (dDs fr to l).length cap2] 26) = W3 at *
    have HW3 := hid hW3; clear hW3 oa
    generalize hDE : dEr fr to l = er
    have HDE := hid hDE; clear hDE
    go_wp2_with fail
    rw [HW3.out]
    refine (rdecAny W3 fr to A n c l (HL.out.only_nil HB.out) HC.out hnc hcm (by omega)).mono ?_
    rintro x w4 ⟨v4, rfl, hv4, o4⟩
    rw [HG2.out, HDE.out]
    have HOA := hid (HOA.out.only o4 (by simp)); have HV := hid (HV.out.only_nil o4); have HB := hid (HB.out.trans o4); have HV2 := hid (HV2.out.only_nil o4); have R2 := hid (R2.out.only_nil o4)
    obtain ⟨A4, cap4, ev4, hc4, hm4, r4, hb4⟩ := hv4.slice
    have R4 := hid r4
    subst ev4
    clear hv4 o4 r4 hb4
    have HOB : Hid (Ob (w4.alloc (.cells #[.int .u32 f0, .int .i64 f1, .int .u32 f2, .int .i64 f3, .int .u32 f4, .int .u32 f5, .int .i64 f6, .int .i64 f7, .int .i64 f8, .int .i64 f9, .slice A4 (dDs fr to l).length cap4] 26)) w4.heap.size 26 #[.int .u32 f0, .int .i64 f1, .int .u32 f2, .int .i64 f3, .int .u32 f4, .int .u32 f5, .int .i64 f6, .int .i64 f7, .int .i64 f8, .int .i64 f9, .slice A4 (dDs fr to l).length cap4]) := hid (Ob.new _ _ _)
    have oa : Only [] w4 (w4.alloc (.cells #[.int .u32 f0, .int .i64 f1, .int .u32 f2, .int .i64 f3, .int .u32 f4, .int .u32 f5, .int .i64 f6, .int .i64 f7, .int .i64 f8, .int .i64 f9, .slice A4 (dDs fr to l).length cap4] 26)) := (Only.refl _ _).alloc _
    have HOA := hid (HOA.out.only oa (by simp)); have HV := hid (HV.out.only_nil oa); have HB := hid (HB.out.trans oa); have HV2 := hid (HV2.out.only_nil oa); have R2 := hid (R2.out.only_nil oa); have R4 := hid (R4.out.only_nil oa)
    clear oa
    go_wp2_with (first
      | (refine wp_loadOb rfl 26 (.tmp 8) rfl w2.heap.size rfl _ 26 HOA.out Try.underlying26 rfl (by kernel_rfl) ?_; try simp only [Act.put, List.setIfInBounds_toArray, List.set_cons_zero, List.set_cons_succ])
      | (refine wp_loadOb rfl 26 (.tmp 10) rfl w4.heap.size rfl _ 26 HOB.out Try.underlying26 rfl (by kernel_rfl) ?_; try simp only [Act.put, List.setIfInBounds_toArray, List.set_cons_zero, List.set_cons_succ])
      | fail)
    refine (segs1 _ f0 f1 f2 f3 f4 f5 f6 f7 f8 f9 A2 A4 _ _ cap2 cap4 _ R2.out R4.out (by have := HDL.out; omega) (by have := HDL.out; omega)).mono ?_
    rintro x w6 ⟨rfl, o6⟩
    have HOA := hid (HOA.out.only o6 (by simp)); have HV := hid (HV.out.only_nil o6); have HB := hid (HB.out.trans o6); have HV2 := hid (HV2.out.only_nil o6)
    have hs6 := o6.size
    clear o6 R2 R4 HOB
    have q4 : w6.cell? ⟨w2.heap.size, 10, none⟩ = some (.slice A2 (dDs fr to l).length cap2) := HOA.out.cell 10
    go_wp2_with fail
    refine (hlp.spoilO _ w1.heap.size (.slice A2 (dDs fr to l).length cap2) _ HV2.out (by have := HOA.out.lt; omega) (by have := HDL.out; omega)).mono ?_
    rintro x w7 ⟨rfl, o7⟩
    have hvb2 : ∀ i, i ∈ (Value.slice A2 (dDs fr to l).length cap2).ownBlock.toList → w1.heap.size ≤ i := fun i hi => hvb i (by simpa using hi)
    have HV := hid (HV.out.only o7 (fun i hi hm => by have := hvb2 i hm; have h9 : g = i := by simpa [Value.ownBlock] using hi
                                                      omega))
    have HB := hid (HB.out.fresh o7 (fun i hi => .inr (by have := hvb2 i hi; omega)))
    clear o7 q4 HV2
    go_wp2_with fail
    refine (callsOnly (hlp.stands _ (some ⟨g, 0, none⟩) A n cap c l HV.out.rd (by omega) (HL.out.only_nil HB.out) (by omega))).mono ?_
    rintro x w8 ⟨rfl, o8⟩
    have HB := hid (HB.out.trans o8); clear o8
    go_wp2_with fail
    refine (known _).mono ?_
    rintro x w9 ⟨rfl, o9⟩
    have HB := hid (HB.out.trans o9); clear o9
    go_wp2
    go_ret
    exact ⟨rfl, HB.out⟩
end Go.Proofs.Ytkpdgfimibmoeaa.seg
