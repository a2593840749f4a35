/-
  Chapter 8 (route): slices.SortFunc over routes, by the library's contract laid for this program, and the comparison that is handed to it, by a walk of each text. Conditions: none but those typed.
-/
import Derived.Test.YtoidpakenocllaaRtA
import Derived.Shelf.SlSortCmp.WholeK
import Derived.Shelf.SlSortCmp.NoneTotal
import Derived.Deep.RegionHeld3
namespace Go.Proofs.Ytoidpakenocllaa.rou
set_option linter.unusedVariables false
set_option linter.unusedSimpArgs false
section
open Go.Shelf
def sortLays_ren : Go.Shelf.Ren := ⟨fun | 6 => 27 | 15 => 37 | 14 => 36 | 28 => 52 | 29 => 53 | 20 => 44 | 21 => 45 | 22 => 46 | 23 => 47 | 24 => 48 | 25 => 49 | 26 => 50 | 27 => 51 | 46 => 55 | 47 => 56 | 48 => 57 | 49 => 58 | 50 => 59 | 57 => 61 | n => n, fun | 22 => 28 | 24 => 34 | 25 => 65 | 3 => 3 | 39 => 69 | 0 => 0 | 53 => 31 | 55 => 89 | 4 => 4 | 46 => 82 | 45 => 81 | 50 => 66 | 5 => 5 | 9 => 9 | 66 => 90 | 70 => 94 | 76 => 97 | 77 => 98 | n => n, fun | n => n⟩
theorem sortLays : Go.Proofs.SlLaysF0.n6 Try.prog sortLays_ren := {
  mixed := by kernel_rfl
  f6 := ⟨Try.f27.name, by decide, Try.func27.trans (congrArg some (by kernel_rfl))⟩
  f14 := ⟨Try.f36.name, by decide, Try.func36.trans (congrArg some (by kernel_rfl))⟩
  f15 := Try.func37.trans (congrArg some (by kernel_rfl))
  f20 := ⟨Try.f44.name, by decide, Try.func44.trans (congrArg some (by kernel_rfl))⟩
  f21 := ⟨Try.f45.name, by decide, Try.func45.trans (congrArg some (by kernel_rfl))⟩
  f22 := ⟨Try.f46.name, by decide, Try.func46.trans (congrArg some (by kernel_rfl))⟩
  f23 := ⟨Try.f47.name, by decide, Try.func47.trans (congrArg some (by kernel_rfl))⟩
  f24 := ⟨Try.f48.name, by decide, Try.func48.trans (congrArg some (by kernel_rfl))⟩
  f25 := ⟨Try.f49.name, by decide, Try.func49.trans (congrArg some (by kernel_rfl))⟩
  f26 := ⟨Try.f50.name, by decide, Try.func50.trans (congrArg some (by kernel_rfl))⟩
  f27 := ⟨Try.f51.name, by decide, Try.func51.trans (congrArg some (by kernel_rfl))⟩
  f28 := Try.func52.trans (congrArg some (by kernel_rfl))
  f29 := Try.func53.trans (congrArg some (by kernel_rfl))
  f46 := ⟨Try.f55.name, by decide, Try.func55.trans (congrArg some (by kernel_rfl))⟩
  f47 := Try.func56.trans (congrArg some (by kernel_rfl))
  f48 := Try.func57.trans (congrArg some (by kernel_rfl))
  f49 := ⟨Try.f58.name, by decide, Try.func58.trans (congrArg some (by kernel_rfl))⟩
  f50 := ⟨Try.f59.name, by decide, Try.func59.trans (congrArg some (by kernel_rfl))⟩
  f57 := ⟨Try.f61.name, by decide, Try.func61.trans (congrArg some (by kernel_rfl))⟩
  t0 := Try.underlying0
  a0 := Try.isAgg0
  z0 := Try.sizeOf0
  v0 := Try.zeroValue0
  t3 := Try.underlying3
  a3 := Try.isAgg3
  z3 := Try.sizeOf3
  v3 := Try.zeroValue3
  t4 := Try.underlying4
  a4 := Try.isAgg4
  z4 := Try.sizeOf4
  v4 := Try.zeroValue4
  t5 := Try.underlying5
  a5 := Try.isAgg5
  z5 := Try.sizeOf5
  v5 := Try.zeroValue5
  t9 := Try.underlying9
  a9 := Try.isAgg9
  z9 := Try.sizeOf9
  v9 := Try.zeroValue9
  t22 := Try.underlying28
  a22 := Try.isAgg28
  z22 := Try.sizeOf28
  v22 := Try.zeroValue28
  t25 := Try.underlying65
  a25 := Try.isAgg65
  z25 := Try.sizeOf65
  v25 := Try.zeroValue65
  t39 := Try.underlying69
  a39 := Try.isAgg69
  z39 := Try.sizeOf69
  v39 := Try.zeroValue69
  t45 := Try.underlying81
  a45 := Try.isAgg81
  z45 := Try.sizeOf81
  v45 := Try.zeroValue81
  t46 := Try.underlying82
  a46 := Try.isAgg82
  z46 := Try.sizeOf82
  v46 := Try.zeroValue82
  t50 := Try.underlying66
  a50 := Try.isAgg66
  z50 := Try.sizeOf66
  v50 := Try.zeroValue66
  t53 := Try.underlying31
  a53 := Try.isAgg31
  z53 := Try.sizeOf31
  v53 := Try.zeroValue31
  t55 := Try.underlying89
  a55 := Try.isAgg89
  z55 := Try.sizeOf89
  v55 := Try.zeroValue89
  t66 := Try.underlying90
  a66 := Try.isAgg90
  z66 := Try.sizeOf90
  v66 := Try.zeroValue90
  t70 := Try.underlying94
  a70 := Try.isAgg94
  z70 := Try.sizeOf94
  v70 := Try.zeroValue94
  t76 := Try.underlying97
  a76 := Try.isAgg97
  z76 := Try.sizeOf97
  v76 := Try.zeroValue97
  t77 := Try.underlying98
  a77 := Try.isAgg98
  z77 := Try.sizeOf98
  v77 := Try.zeroValue98 }
end
open Go.ChangeShapes Go.WideShapes Go.ChangeAt Go.RowKit Go.IntWalk Go.Lib
instance : Inhabited Rt := ⟨⟨0, 0, 0, 0⟩⟩
def orZ (x y z : Int) : Int := if x ≠ 0 then x else if y ≠ 0 then y else z
theorem nanU (w : World) (a : Int) : Calls Try.prog 39 #[.int .u32 a] w fun x w' => x = .returned (.bool false) ∧ w = w' := by
  go_enter Try.func39, Try.ntmps39
  go_wp2
  go_ret
  exact ⟨by simp, rfl⟩
theorem cmpU (w : World) (a b : Int) : Calls Try.prog 31 #[.int .u32 a, .int .u32 b] w fun x w' => x = .returned (.int .i64 (cmpZ a b)) ∧ w = w' := by
  by_cases h1 : a < b
  · have HE : Hid (cmpZ a b = -1) := hid (by unfold cmpZ; rw [if_pos h1])
    go_enter Try.func31, Try.ntmps31
    go_wp2_with fail
    refine (nanU w a).mono ?_
    rintro x w' ⟨rfl, rfl⟩
    go_wp2_with fail
    refine (nanU w b).mono ?_
    rintro x w' ⟨rfl, rfl⟩
    go_wp2
    go_ret
    exact ⟨by rw [HE.out]; rfl, rfl⟩
  · by_cases h2 : b < a
    · have HE : Hid (cmpZ a b = 1) := hid (by unfold cmpZ; rw [if_neg h1, if_pos h2])
      go_enter Try.func31, Try.ntmps31
      go_wp2_with fail
      refine (nanU w a).mono ?_
      rintro x w' ⟨rfl, rfl⟩
      go_wp2_with fail
      refine (nanU w b).mono ?_
      rintro x w' ⟨rfl, rfl⟩
      go_wp2
      go_ret
      exact ⟨by rw [HE.out]; rfl, rfl⟩
    · have HE : Hid (cmpZ a b = 0) := hid (by unfold cmpZ; rw [if_neg h1, if_neg h2])
      go_enter Try.func31, Try.ntmps31
      go_wp2_with fail
      refine (nanU w a).mono ?_
      rintro x w' ⟨rfl, rfl⟩
      go_wp2_with fail
      refine (nanU w b).mono ?_
      rintro x w' ⟨rfl, rfl⟩
      go_wp2
      go_ret
      exact ⟨by rw [HE.out]; rfl, rfl⟩
set_option maxHeartbeats 1000000 in
theorem or3 (w : World) (g : Nat) (T : TypeId) (x y z : Int) (h : Ob w g T #[.int .i64 x, .int .i64 y, .int .i64 z]) : Calls Try.prog 29 #[.slice (some ⟨g, 0, none⟩) 3 3] w fun r w' => r = .returned (.int .i64 (orZ x y z)) ∧ w = w' := by
  have H := hid h; clear h
  go_enter Try.func29, Try.ntmps29
  go_wp2
  go_loopw [8] (fun i wr => ∃ k : Nat, k ≤ 3 ∧ i = .int .i64 k ∧ Hid ((0 < k → x = 0) ∧ (1 < k → y = 0) ∧ (2 < k → z = 0)) ∧ w = wr) (fun i _ => 3 - (RowKit.intOf i).toNat)
  case atStart => exact ⟨0, by omega, rfl, hid ⟨by omega, by omega, by omega⟩, rfl⟩
  case round =>
    obtain ⟨k, hk, rfl, HF, rfl⟩ := hrel
    have o := H.out
    have c0 := o.cell 0; have c1 := o.cell 1; have c2 := o.cell 2
    clear o
    obtain ⟨f0, f1, f2⟩ := HF.out
    clear HF
    obtain rfl | rfl | rfl | rfl : k = 0 ∨ k = 1 ∨ k = 2 ∨ k = 3 := by omega
    · by_cases hv : x = 0
      · have HF : Hid ((0 < 1 → x = 0) ∧ (1 < 1 → y = 0) ∧ (2 < 1 → z = 0)) := hid ⟨by omega, by omega, by omega⟩
        have b0 : (x != 0) = false := by simpa using hv
        clear f0 f1 f2 hv
        go_wp2
        go_roundw
        case rel => exact ⟨1, by omega, by go_num, HF, by first | rfl | trivial⟩
        case measure => simp [RowKit.intOf]
      · have HE : Hid (orZ x y z = x) := hid (by unfold orZ; rw [if_pos hv])
        have b0 : (x != 0) = true := by simpa using hv
        clear f0 f1 f2
        go_wp2
        go_ret
        exact ⟨rInt HE.out.symm, rfl⟩
    · have e0 := f0 (by omega)
      by_cases hv : y = 0
      · have HF : Hid ((0 < 2 → x = 0) ∧ (1 < 2 → y = 0) ∧ (2 < 2 → z = 0)) := hid ⟨by omega, by omega, by omega⟩
        have b0 : (y != 0) = false := by simpa using hv
        clear f0 f1 f2 hv e0
        go_wp2
        go_roundw
        case rel => exact ⟨2, by omega, by go_num, HF, by first | rfl | trivial⟩
        case measure => simp [RowKit.intOf]
      · have HE : Hid (orZ x y z = y) := hid (by unfold orZ; rw [if_neg (by omega), if_pos hv])
        have b0 : (y != 0) = true := by simpa using hv
        clear f0 f1 f2 e0
        go_wp2
        go_ret
        exact ⟨rInt HE.out.symm, rfl⟩
    · have e0 := f0 (by omega)
      have e1 := f1 (by omega)
      by_cases hv : z = 0
      · have HF : Hid ((0 < 3 → x = 0) ∧ (1 < 3 → y = 0) ∧ (2 < 3 → z = 0)) := hid ⟨by omega, by omega, by omega⟩
        have b0 : (z != 0) = false := by simpa using hv
        clear f0 f1 f2 hv e0 e1
        go_wp2
        go_roundw
        case rel => exact ⟨3, by omega, by go_num, HF, by first | rfl | trivial⟩
        case measure => simp [RowKit.intOf]
      · have HE : Hid (orZ x y z = z) := hid (by unfold orZ; rw [if_neg (by omega), if_neg (by omega)])
        have b0 : (z != 0) = true := by simpa using hv
        clear f0 f1 f2 e0 e1
        go_wp2
        go_ret
        exact ⟨rInt HE.out.symm, rfl⟩
    · have e0 := f0 (by omega)
      have e1 := f1 (by omega)
      have e2 := f2 (by omega)
      have HE : Hid (orZ x y z = 0) := hid (by unfold orZ; rw [if_neg (by omega), if_neg (by omega)]; exact e2)
      clear f0 f1 f2 e0 e1 e2
      go_wp2
      go_ret
      exact ⟨rInt HE.out.symm, rfl⟩
/-- Does one stand ahead of another? -/
def ahB (a b : Rt) : Bool := decide (a.bits > b.bits ∨ a.bits = b.bits ∧ (a.net < b.net ∨ a.net = b.net ∧ a.met < b.met))
theorem ahB_iff (a b : Rt) : ahB a b = true ↔ Ahd a b := by unfold ahB Ahd; exact decide_eq_true_iff
theorem ahB_not (a b : Rt) : ahB a b = false ↔ ¬ Ahd a b := by rw [← ahB_iff]; simp
/-- How two routes stand to one another. -/
def cmpR (x y : Rt) : Int := orZ (cmpZ y.bits x.bits) (cmpZ x.net y.net) (cmpZ x.met y.met)
set_option maxHeartbeats 4000000 in
theorem cmpClo (x y : Rt) (w : World) : Calls Try.prog 28 #[.agg #[.int .u32 x.net, .int .i64 x.bits, .int .u32 x.via, .int .i64 x.met], .agg #[.int .u32 y.net, .int .i64 y.bits, .int .u32 y.via, .int .i64 y.met]] w fun e w' => e = .returned (.int .i64 (cmpR x y)) ∧ ∃ q os', w' = Go.Sort.grow (w.drewN q) os' := by
  obtain ⟨n1, b1, v1, m1⟩ := x
  obtain ⟨n2, b2, v2, m2⟩ := y
  have HC : Hid (orZ (cmpZ b2 b1) (cmpZ n1 n2) (cmpZ m1 m2) = cmpR ⟨n1, b1, v1, m1⟩ ⟨n2, b2, v2, m2⟩) := hid rfl
  generalize cmpR ⟨n1, b1, v1, m1⟩ ⟨n2, b2, v2, m2⟩ = z at *
  have OB1 := hid ((Ob.new w 34 #[.int .u32 n1, .int .i64 b1, .int .u32 v1, .int .i64 m1]).alloc (.cells #[.int .u32 n2, .int .i64 b2, .int .u32 v2, .int .i64 m2] 34))
  have OB2 := hid (Ob.new (w.alloc (.cells #[.int .u32 n1, .int .i64 b1, .int .u32 v1, .int .i64 m1] 34)) 34 #[.int .u32 n2, .int .i64 b2, .int .u32 v2, .int .i64 m2])
  have hgr : (w.alloc (.cells #[.int .u32 n1, .int .i64 b1, .int .u32 v1, .int .i64 m1] 34)).heap.size = w.heap.size + 1 := by simp
  rw [hgr] at OB2
  have HW : Hid (∃ os, (w.alloc (.cells #[.int .u32 n1, .int .i64 b1, .int .u32 v1, .int .i64 m1] 34)).alloc (.cells #[.int .u32 n2, .int .i64 b2, .int .u32 v2, .int .i64 m2] 34) = Go.Sort.grow w os) := hid ⟨_, by rw [Go.Sort.alloc_eq_grow, Go.Sort.alloc_eq_grow, Go.Sort.grow_grow]⟩
  go_enter Try.func28, Try.ntmps28
  go_wp2_with fail
  generalize (w.alloc (.cells #[.int .u32 n1, .int .i64 b1, .int .u32 v1, .int .i64 m1] 34)).alloc (.cells #[.int .u32 n2, .int .i64 b2, .int .u32 v2, .int .i64 m2] 34) = W at *
  have k0 := OB1.out.cell 0; have k1 := OB1.out.cell 1; have k3 := OB1.out.cell 3; have j0 := OB2.out.cell 0; have j1 := OB2.out.cell 1; have j3 := OB2.out.cell 3
  go_region_held3 (fun w' => w'.cell? ⟨w.heap.size, 0, none⟩ = some (.int .u32 n1) ∧ w'.cell? ⟨w.heap.size, 1, none⟩ = some (.int .i64 b1) ∧ w'.cell? ⟨w.heap.size, 3, none⟩ = some (.int .i64 m1) ∧ w'.cell? ⟨w.heap.size + 1, 0, none⟩ = some (.int .u32 n2) ∧ w'.cell? ⟨w.heap.size + 1, 1, none⟩ = some (.int .i64 b2) ∧ w'.cell? ⟨w.heap.size + 1, 3, none⟩ = some (.int .i64 m2)) (go_keep) (first
    | (go_at_call 30; refine (cmp1 _ _ _).mono ?_; rintro x w2 ⟨rfl, rfl⟩)
    | (go_at_call 31; refine (cmpU _ _ _).mono ?_; rintro x w2 ⟨rfl, rfl⟩)
    | (go_at_call 29; refine (or3 _ _ _ _ _ _ (Ob.drew (Ob.new _ _ _))).mono ?_; rintro x w2 ⟨rfl, rfl⟩))
  go_wp2
  go_ret
  refine ⟨rInt HC.out, ?_⟩
  obtain ⟨os, e⟩ := HW.out
  rw [e]
  exact ⟨1, _, by rw [Go.Sort.alloc_eq_grow, Go.Sort.grow_grow]; rfl⟩
theorem cmpR_lt (x y : Rt) : Go.Proofs.ltOf cmpR x y = ahB x y := by
  unfold Go.Proofs.ltOf cmpR ahB orZ
  have hz : ∀ a b : Int, (a < b ∧ cmpZ a b = -1) ∨ (a = b ∧ cmpZ a b = 0) ∨ (b < a ∧ cmpZ a b = 1) := fun a b => by
    unfold cmpZ
    by_cases h : a < b
    · exact .inl ⟨h, if_pos h⟩
    · by_cases h2 : b < a
      · exact .inr (.inr ⟨h2, by rw [if_neg h, if_pos h2]⟩)
      · exact .inr (.inl ⟨by omega, by rw [if_neg h, if_neg h2]⟩)
  apply decide_eq_decide.2
  rcases hz y.bits x.bits with ⟨h1, e1⟩ | ⟨h1, e1⟩ | ⟨h1, e1⟩ <;> rcases hz x.net y.net with ⟨h2, e2⟩ | ⟨h2, e2⟩ | ⟨h2, e2⟩ <;> rcases hz x.met y.met with ⟨h3, e3⟩ | ⟨h3, e3⟩ | ⟨h3, e3⟩ <;> rw [e1, e2, e3] <;> simp <;> omega
theorem cmpR_swo : Go.Sort.SWO (Go.Proofs.ltOf cmpR) where
  irrefl x := by rw [cmpR_lt, ahB_not]; unfold Ahd; omega
  trans x y z h1 h2 := by rw [cmpR_lt, ahB_iff] at *; exact h1.trans h2
  ntrans x y z h1 h2 := by
    rw [cmpR_lt] at *
    rw [ahB_not] at *
    unfold Ahd at *; omega
theorem cmpLays (blk off size : Nat) (w : World) : Go.Proofs.CmpLays Try.prog 28 #[] Rt.enc 4 cmpR blk off size w := fun m os dk hs x y => cmpClo x y _
/-- Cells as the sort speaks of them. -/
theorem flat_get (D : List Rt) (j : Nat) (h : j < D.length * 4) : (Go.Sort.flatK Rt.enc 4 D.toArray)[j]! = (rws Rt.enc D).getD j (.int .i64 0) := by
  rw [Go.Sort.get_flatK _ _ _ _ (by simpa using h)]
  have h1 : j / 4 < D.length := by omega
  have h2 := rws_at enc_len D (j / 4) (j % 4) h1 (by omega)
  rw [show j / 4 * 4 + j % 4 = j from by omega] at h2
  rw [List.getD_eq_getElem?_getD, h2]
  have e : D.toArray[j / 4]! = D[j / 4] := by simp [h1]
  rw [e]
  obtain h3 | h3 | h3 | h3 : j % 4 = 0 ∨ j % 4 = 1 ∨ j % 4 = 2 ∨ j % 4 = 3 := by omega
  · rw [h3]; rfl
  · rw [h3]; rfl
  · rw [h3]; rfl
  · rw [h3]; rfl
set_option maxHeartbeats 2000000 in
/-- slices.SortFunc over routes of a row of the call's own: a permutation, in order. -/
theorem sortRt (w : World) (base : Nat) (v : Value) (D : List Rt) (hv : w.ownsRow base 34 4 v D.length (rws Rt.enc D)) (hn : 0 < D.length) (hm : D.length < 4611686018427387904) :
    Calls Try.prog 27 #[v, .func (.func 28) #[] #[]] w fun x w' => x = .returned (.tuple #[]) ∧ ∃ E : List Rt, E.Perm D ∧ (E.Pairwise fun x y => ahB y x = false) ∧ w'.ownsRow base 34 4 v E.length (rws Rt.enc E) ∧ Only v.ownBlock.toList w w' := by
  rcases hv.2 with ⟨_, h0⟩ | ⟨b, cap, cur, rfl, hb, hh, hc, hcm, hs, ht⟩
  · omega
  · have ho : Ob w b 34 cur := hh
    have eg : ∀ args w, (callFunc 28 args).run Try.prog w = .ok (.enter 28 args) w := enters_of Try.func28 (by kernel_rfl) rfl
    have hcell : ∀ j, j < D.length * 4 → cur[j]? = some ((rws Rt.enc D).getD j (.int .i64 0)) := fun j hj => by
      have h1 : (cur.toList.take (D.length * 4))[j]? = (rws Rt.enc D)[j]? := by rw [ht]
      rw [List.getElem?_take, if_pos hj] at h1
      rw [← Array.getElem?_toList, h1, List.getD_eq_getElem?_getD, List.getElem?_eq_getElem (by rw [rws_len enc_len]; exact hj)]
      rfl
    have hH : Go.Sort.HoldsK Rt.enc 4 w b 0 D.toArray := fun j hj => by
      have hj2 : j < D.length * 4 := by simpa using hj
      rw [Nat.zero_add, ho.cell j, flat_get D j hj2]
      exact ⟨hcell j hj2, ho.frozen j⟩
    have hcon := Go.Proofs.AnyQ.slices_SortFunc sortLays 4 Try.isAgg34 Try.sizeOf34 Rt.enc (fun _ => rfl) (fun x v hv => by simp [Rt.enc] at hv; rcases hv with rfl | rfl | rfl | rfl <;> rfl) cmpR cmpR_swo 28 #[] b 0 cap D.toArray w eg (cmpLays b 0 D.toArray.size w) hH ho.lt (by simpa using hm)
    change Calls Try.prog 27 _ _ _ at hcon
    rw [List.size_toArray] at hcon
    refine hcon.mono ?_
    rintro x w' ⟨rfl, d', m, os, hp, hsr, rfl⟩
    obtain ⟨hp1, _, hp3⟩ := hp
    have hsz : d'.size = D.length := by simpa using hp1
    have hperm : d'.toList.Perm D := by
      have e1 : (d'.extract 0 D.length).toList = d'.toList := by rw [← hsz]; simp
      have e2 : ((D.toArray).extract 0 D.length).toList = D := by simp
      rw [e1, e2] at hp3
      exact hp3
    have hget : ∀ i (hi : i < d'.size), d'[i]! = d'.toList[i]'(by simpa using hi) := fun i hi => by rw [getElem!_pos d' i hi]; simp
    have hE : d' = d'.toList.toArray := by simp
    have hbw : b < w.heap.size := ho.lt
    refine ⟨rfl, d'.toList, hperm, ?_, ?_, ?_⟩
    · rw [List.pairwise_iff_getElem]
      intro i j hi hj hij
      have h9 := hsr i j (Nat.zero_le _) hij (by rw [← hsz]; simpa using hj)
      rw [cmpR_lt, hget i (by simpa using hi), hget j (by simpa using hj)] at h9
      exact h9
    · have hl : d'.toList.length = D.length := by simpa using hsz
      rw [hl]
      refine ⟨by rw [rws_len enc_len, hl], .inr ⟨b, cap, Go.Sort.putCells id 0 (Go.Sort.flatK Rt.enc 4 d') cur, rfl, hb, ?_, hc, hcm, by simp [Go.Sort.putCells, hs], ?_⟩⟩
      · unfold Go.Proofs.sortWorldK Go.Sort.putRowK Go.Sort.putRow Go.Sort.mapBlock
        simp only [Go.Sort.grow]
        rw [Array.getElem?_append_left (by simpa using hbw)]
        have hh2 : w.heap[b]? = some (.cells cur 34 (0, 0)) := hh
        show (w.heap.modify b _)[b]? = _
        rw [Array.getElem?_modify, if_pos rfl, hh2]
        rfl
      · apply List.ext_getElem?
        intro j
        by_cases hj : j < D.length * 4
        · rw [List.getElem?_take, if_pos hj]
          have hjc : j < cur.size := by rw [hs]; have := Nat.mul_le_mul_right 4 hc; omega
          have hjd : j < d'.size * 4 := by rw [hsz]; exact hj
          simp only [Go.Sort.putCells, Array.getElem?_toList, Array.getElem?_mapIdx]
          rw [Array.getElem?_eq_getElem hjc]
          simp only [Option.map_some, Nat.zero_le, Nat.zero_add, true_and, Nat.sub_zero, Go.Sort.size_flatK, if_pos hjd, id]
          have h7 := flat_get d'.toList j (by simpa using hjd)
          rw [← hE] at h7
          rw [h7, List.getD_eq_getElem?_getD, List.getElem?_eq_getElem (by rw [rws_len enc_len]; simpa using hjd)]
          rfl
        · rw [List.getElem?_take, if_neg hj, List.getElem?_eq_none (by rw [rws_len enc_len, hl]; omega)]
    · refine ⟨rfl, rfl, rfl, ?_, fun k hk hn2 => ?_⟩
      · simp [Go.Proofs.sortWorldK, Go.Sort.putRowK]
      · have hkb : k ≠ b := fun e => hn2 (by simp [Value.ownBlock, e])
        unfold Go.Proofs.sortWorldK Go.Sort.putRowK Go.Sort.putRow Go.Sort.mapBlock
        simp only [Go.Sort.grow]
        rw [Array.getElem?_append_left (by simpa using hk)]
        show (w.heap.modify b _)[k]? = _
        rw [Array.getElem?_modify, if_neg (Ne.symm hkb)]
theorem sortAll (w : World) (base : Nat) (v : Value) (D : List Rt) (hv : w.ownsRow base 34 4 v D.length (rws Rt.enc D)) (hm : D.length < 4611686018427387904) :
    Calls Try.prog 27 #[v, .func (.func 28) #[] #[]] w fun x w' => x = .returned (.tuple #[]) ∧ ∃ E : List Rt, E.Perm D ∧ (E.Pairwise fun x y => ahB y x = false) ∧ w'.ownsRow base 34 4 v E.length (rws Rt.enc E) ∧ Only v.ownBlock.toList w w' := by
  rcases Nat.eq_zero_or_pos D.length with h0 | h0
  · obtain rfl : D = [] := List.eq_nil_of_length_eq_zero h0
    obtain ⟨A, c, rfl, _⟩ := RdS.of_own hv (rws_one enc_one _)
    have h := Go.Proofs.AnyF.slices_SortFunc_none sortLays A c (.func (.func 28) #[] #[]) w
    refine Calls.mono (show Calls Try.prog 27 _ _ _ from h) ?_
    rintro x w' ⟨rfl, rfl⟩
    exact ⟨rfl, [], List.Perm.refl _, List.Pairwise.nil, hv, Only.refl _ _⟩
  · exact sortRt w base v D hv h0 hm
end Go.Proofs.Ytoidpakenocllaa.rou
