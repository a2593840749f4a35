/-
  Chapter 3 (wheel): slices.SortFunc over timers, by the library's contract laid for this program, and the comparison that is handed to it, by a walk of each text. Conditions: none but those typed.
-/
import Derived.Test.YtnachendenodkaaWhlE
import Derived.Shelf.SlSortCmp.WholeK
import Derived.Deep.RegionHeld3
namespace Go.Proofs.Ytnachendenodkaa.whl
set_option linter.unusedVariables false
set_option linter.unusedSimpArgs false
section
open Go.Shelf
def sortRen : Go.Shelf.Ren := ⟨fun | 6 => 23 | 15 => 31 | 14 => 30 | 28 => 43 | 29 => 44 | 20 => 35 | 21 => 36 | 22 => 37 | 23 => 38 | 24 => 39 | 25 => 40 | 26 => 41 | 27 => 42 | 46 => 45 | 47 => 46 | 48 => 47 | 49 => 48 | 50 => 49 | 57 => 50 | n => n, fun | 22 => 24 | 24 => 55 | 25 => 58 | 3 => 3 | 39 => 64 | 0 => 0 | 53 => 75 | 55 => 77 | 4 => 4 | 46 => 69 | 45 => 68 | 50 => 42 | 5 => 5 | 9 => 9 | 66 => 78 | 70 => 82 | 76 => 84 | 77 => 85 | n => n, fun | n => n⟩
theorem sortLays : Go.Proofs.SlLaysF0.n6 Try.prog sortRen := {
  mixed := by kernel_rfl
  f6 := ⟨Try.f23.name, by decide, Try.func23.trans (congrArg some (by kernel_rfl))⟩
  f14 := ⟨Try.f30.name, by decide, Try.func30.trans (congrArg some (by kernel_rfl))⟩
  f15 := Try.func31.trans (congrArg some (by kernel_rfl))
  f20 := ⟨Try.f35.name, by decide, Try.func35.trans (congrArg some (by kernel_rfl))⟩
  f21 := ⟨Try.f36.name, by decide, Try.func36.trans (congrArg some (by kernel_rfl))⟩
  f22 := ⟨Try.f37.name, by decide, Try.func37.trans (congrArg some (by kernel_rfl))⟩
  f23 := ⟨Try.f38.name, by decide, Try.func38.trans (congrArg some (by kernel_rfl))⟩
  f24 := ⟨Try.f39.name, by decide, Try.func39.trans (congrArg some (by kernel_rfl))⟩
  f25 := ⟨Try.f40.name, by decide, Try.func40.trans (congrArg some (by kernel_rfl))⟩
  f26 := ⟨Try.f41.name, by decide, Try.func41.trans (congrArg some (by kernel_rfl))⟩
  f27 := ⟨Try.f42.name, by decide, Try.func42.trans (congrArg some (by kernel_rfl))⟩
  f28 := Try.func43.trans (congrArg some (by kernel_rfl))
  f29 := Try.func44.trans (congrArg some (by kernel_rfl))
  f46 := ⟨Try.f45.name, by decide, Try.func45.trans (congrArg some (by kernel_rfl))⟩
  f47 := Try.func46.trans (congrArg some (by kernel_rfl))
  f48 := Try.func47.trans (congrArg some (by kernel_rfl))
  f49 := ⟨Try.f48.name, by decide, Try.func48.trans (congrArg some (by kernel_rfl))⟩
  f50 := ⟨Try.f49.name, by decide, Try.func49.trans (congrArg some (by kernel_rfl))⟩
  f57 := ⟨Try.f50.name, by decide, Try.func50.trans (congrArg some (by kernel_rfl))⟩
  t0 := Try.underlying0
  a0 := Try.isAgg0
  z0 := Try.sizeOf0
  v0 := Try.zeroValue0
  t3 := Try.underlying3
  a3 := Try.isAgg3
  z3 := Try.sizeOf3
  v3 := Try.zeroValue3
  t4 := Try.underlying4
  a4 := Try.isAgg4
  z4 := Try.sizeOf4
  v4 := Try.zeroValue4
  t5 := Try.underlying5
  a5 := Try.isAgg5
  z5 := Try.sizeOf5
  v5 := Try.zeroValue5
  t9 := Try.underlying9
  a9 := Try.isAgg9
  z9 := Try.sizeOf9
  v9 := Try.zeroValue9
  t22 := Try.underlying24
  a22 := Try.isAgg24
  z22 := Try.sizeOf24
  v22 := Try.zeroValue24
  t25 := Try.underlying58
  a25 := Try.isAgg58
  z25 := Try.sizeOf58
  v25 := Try.zeroValue58
  t39 := Try.underlying64
  a39 := Try.isAgg64
  z39 := Try.sizeOf64
  v39 := Try.zeroValue64
  t45 := Try.underlying68
  a45 := Try.isAgg68
  z45 := Try.sizeOf68
  v45 := Try.zeroValue68
  t46 := Try.underlying69
  a46 := Try.isAgg69
  z46 := Try.sizeOf69
  v46 := Try.zeroValue69
  t50 := Try.underlying42
  a50 := Try.isAgg42
  z50 := Try.sizeOf42
  v50 := Try.zeroValue42
  t53 := Try.underlying75
  a53 := Try.isAgg75
  z53 := Try.sizeOf75
  v53 := Try.zeroValue75
  t55 := Try.underlying77
  a55 := Try.isAgg77
  z55 := Try.sizeOf77
  v55 := Try.zeroValue77
  t66 := Try.underlying78
  a66 := Try.isAgg78
  z66 := Try.sizeOf78
  v66 := Try.zeroValue78
  t70 := Try.underlying82
  a70 := Try.isAgg82
  z70 := Try.sizeOf82
  v70 := Try.zeroValue82
  t76 := Try.underlying84
  a76 := Try.isAgg84
  z76 := Try.sizeOf84
  v76 := Try.zeroValue84
  t77 := Try.underlying85
  a77 := Try.isAgg85
  z77 := Try.sizeOf85
  v77 := Try.zeroValue85 }
end
open Go.ChangeShapes Go.WideShapes Go.ChangeAt Go.RowKit Go.IntWalk Go.Lib
def cmpZ (a b : Int) : Int := if a < b then -1 else if b < a then 1 else 0
def orZ (x y : Int) : Int := if x ≠ 0 then x else y
theorem nan0 (w : World) (a : Int) : Calls Try.prog 32 #[.int .i64 a] w fun x w' => x = .returned (.bool false) ∧ w = w' := by
  go_enter Try.func32, Try.ntmps32
  go_wp2
  go_ret
  exact ⟨rBool (by simp), rfl⟩
theorem cmp1 (w : World) (a b : Int) : Calls Try.prog 26 #[.int .i64 a, .int .i64 b] w fun x w' => x = .returned (.int .i64 (cmpZ a b)) ∧ w = w' := by
  by_cases h1 : a < b
  · have HE : Hid (cmpZ a b = -1) := hid (by unfold cmpZ; rw [if_pos h1])
    go_enter Try.func26, Try.ntmps26
    go_wp2_with fail
    refine (nan0 w a).mono ?_
    rintro x w' ⟨rfl, rfl⟩
    go_wp2_with fail
    refine (nan0 w b).mono ?_
    rintro x w' ⟨rfl, rfl⟩
    go_wp2
    go_ret
    exact ⟨rInt HE.out.symm, rfl⟩
  · by_cases h2 : b < a
    · have HE : Hid (cmpZ a b = 1) := hid (by unfold cmpZ; rw [if_neg h1, if_pos h2])
      go_enter Try.func26, Try.ntmps26
      go_wp2_with fail
      refine (nan0 w a).mono ?_
      rintro x w' ⟨rfl, rfl⟩
      go_wp2_with fail
      refine (nan0 w b).mono ?_
      rintro x w' ⟨rfl, rfl⟩
      go_wp2
      go_ret
      exact ⟨rInt HE.out.symm, rfl⟩
    · have HE : Hid (cmpZ a b = 0) := hid (by unfold cmpZ; rw [if_neg h1, if_neg h2])
      go_enter Try.func26, Try.ntmps26
      go_wp2_with fail
      refine (nan0 w a).mono ?_
      rintro x w' ⟨rfl, rfl⟩
      go_wp2_with fail
      refine (nan0 w b).mono ?_
      rintro x w' ⟨rfl, rfl⟩
      go_wp2
      go_ret
      exact ⟨rInt HE.out.symm, rfl⟩
set_option maxHeartbeats 1000000 in
theorem or2 (w : World) (g : Nat) (T : TypeId) (x y : Int) (h : Ob w g T #[.int .i64 x, .int .i64 y]) : Calls Try.prog 25 #[.slice (some ⟨g, 0, none⟩) 2 2] w fun r w' => r = .returned (.int .i64 (orZ x y)) ∧ w = w' := by
  have c0 := h.cell 0; have c1 := h.cell 1
  clear h
  go_enter Try.func25, Try.ntmps25
  go_wp2
  go_loopw [8] (fun i wr => ∃ k : Nat, k ≤ 2 ∧ i = .int .i64 k ∧ Hid ((0 < k → x = 0) ∧ (1 < k → y = 0)) ∧ w = wr) (fun i _ => 2 - (RowKit.intOf i).toNat)
  case atStart => exact ⟨0, by omega, rfl, hid ⟨by omega, by omega⟩, rfl⟩
  case round =>
    obtain ⟨k, hk, rfl, HF, rfl⟩ := hrel
    obtain ⟨f0, f1⟩ := HF.out
    clear HF
    obtain rfl | rfl | rfl : k = 0 ∨ k = 1 ∨ k = 2 := by omega
    · by_cases hv : x = 0
      · have HF : Hid ((0 < 1 → x = 0) ∧ (1 < 1 → y = 0)) := hid ⟨by omega, by omega⟩
        have b0 : (x != 0) = false := by simpa using hv
        clear f0 f1 hv
        go_wp2
        go_roundw
        case rel => exact ⟨1, by omega, by go_num, HF, by first | rfl | trivial⟩
        case measure => simp [RowKit.intOf]
      · have HE : Hid (orZ x y = x) := hid (by unfold orZ; rw [if_pos hv])
        have b0 : (x != 0) = true := by simpa using hv
        clear f0 f1
        go_wp2
        go_ret
        exact ⟨rInt HE.out.symm, rfl⟩
    · have e0 := f0 (by omega)
      by_cases hv : y = 0
      · have HF : Hid ((0 < 2 → x = 0) ∧ (1 < 2 → y = 0)) := hid ⟨fun _ => e0, fun _ => hv⟩
        have b0 : (y != 0) = false := by simpa using hv
        clear f0 f1 hv e0
        go_wp2
        go_roundw
        case rel => exact ⟨2, by omega, by go_num, HF, by first | rfl | trivial⟩
        case measure => simp [RowKit.intOf]
      · have HE : Hid (orZ x y = y) := hid (by unfold orZ; rw [if_neg (by omega)])
        have b0 : (y != 0) = true := by simpa using hv
        clear f0 f1 e0
        go_wp2
        go_ret
        exact ⟨rInt HE.out.symm, rfl⟩
    · have e0 := f0 (by omega); have e1 := f1 (by omega)
      have HE : Hid (orZ x y = 0) := hid (by unfold orZ; rw [if_neg (by omega)]; exact e1)
      clear f0 f1 e0 e1
      go_wp2
      go_ret
      exact ⟨rInt HE.out.symm, rfl⟩
/-- How two timers stand to one another. -/
def cmpT (x y : Tm) : Int := orZ (cmpZ x.a y.a) (cmpZ x.k y.k)
set_option maxHeartbeats 2000000 in
theorem cmpClo (x y : Tm) (w : World) : Calls Try.prog 24 #[.agg #[.int .i64 x.k, .int .i64 x.a], .agg #[.int .i64 y.k, .int .i64 y.a]] w fun e w' => e = .returned (.int .i64 (cmpT x y)) ∧ ∃ q os', w' = Go.Sort.grow (w.drewN q) os' := by
  obtain ⟨k1, a1⟩ := x
  obtain ⟨k2, a2⟩ := y
  have HC : Hid (orZ (cmpZ a1 a2) (cmpZ k1 k2) = cmpT ⟨k1, a1⟩ ⟨k2, a2⟩) := hid rfl
  generalize cmpT ⟨k1, a1⟩ ⟨k2, a2⟩ = z at *
  have OB1 := hid ((Ob.new w 55 #[.int .i64 k1, .int .i64 a1]).alloc (.cells #[.int .i64 k2, .int .i64 a2] 55))
  have OB2 := hid (Ob.new (w.alloc (.cells #[.int .i64 k1, .int .i64 a1] 55)) 55 #[.int .i64 k2, .int .i64 a2])
  have hgr : (w.alloc (.cells #[.int .i64 k1, .int .i64 a1] 55)).heap.size = w.heap.size + 1 := by simp
  rw [hgr] at OB2
  have HW : Hid (∃ os, (w.alloc (.cells #[.int .i64 k1, .int .i64 a1] 55)).alloc (.cells #[.int .i64 k2, .int .i64 a2] 55) = Go.Sort.grow w os) := hid ⟨_, by rw [Go.Sort.alloc_eq_grow, Go.Sort.alloc_eq_grow, Go.Sort.grow_grow]⟩
  go_enter Try.func24, Try.ntmps24
  go_wp2_with fail
  generalize (w.alloc (.cells #[.int .i64 k1, .int .i64 a1] 55)).alloc (.cells #[.int .i64 k2, .int .i64 a2] 55) = W at *
  have m0 := OB1.out.cell 0; have m1 := OB1.out.cell 1; have m2 := OB2.out.cell 0; have m3 := OB2.out.cell 1
  go_region_held3 (fun w' => w'.cell? ⟨w.heap.size, 0, none⟩ = some (.int .i64 k1) ∧ w'.cell? ⟨w.heap.size, 1, none⟩ = some (.int .i64 a1) ∧ w'.cell? ⟨w.heap.size + 1, 0, none⟩ = some (.int .i64 k2) ∧ w'.cell? ⟨w.heap.size + 1, 1, none⟩ = some (.int .i64 a2)) (go_keep) (first
    | (go_at_call 26; refine (cmp1 _ _ _).mono ?_; rintro x w2 ⟨rfl, rfl⟩)
    | (go_at_call 25; refine (or2 _ _ _ _ _ (Ob.drew (Ob.new _ _ _))).mono ?_; rintro x w2 ⟨rfl, rfl⟩))
  go_wp2
  go_ret
  refine ⟨rInt HC.out, ?_⟩
  obtain ⟨os, e⟩ := HW.out
  rw [e]
  exact ⟨1, _, by rw [Go.Sort.alloc_eq_grow, Go.Sort.grow_grow]; rfl⟩
theorem cmpT_lt (x y : Tm) : Go.Proofs.ltOf cmpT x y = tlt x y := by
  unfold Go.Proofs.ltOf cmpT tlt orZ cmpZ
  by_cases h1 : x.a < y.a
  · simp [h1]
  · by_cases h2 : y.a < x.a
    · have : ¬ x.a = y.a := by omega
      simp [h1, h2, this]
    · have : x.a = y.a := by omega
      by_cases h3 : x.k < y.k
      · simp [this, h3]
      · by_cases h4 : y.k < x.k
        · simp [this, h3, h4]
        · simp [this, h3, h4]
theorem cmpT_swo : Go.Sort.SWO (Go.Proofs.ltOf cmpT) where
  irrefl x := by rw [cmpT_lt]; simp [tlt]
  trans x y z h1 h2 := by rw [cmpT_lt] at *; rw [tlt_iff] at *; omega
  ntrans x y z h1 h2 := by
    rw [cmpT_lt] at *
    rw [← Bool.not_eq_true, tlt_iff] at *
    omega
theorem cmpLays (blk off size : Nat) (w : World) : Go.Proofs.CmpLays Try.prog 24 #[] Tm.cs 2 cmpT blk off size w := fun m os dk hs x y => cmpClo x y _
/-- Cells as the sort speaks of them. -/
theorem flat_get (D : List Tm) (j : Nat) (h : j < D.length * 2) : (Go.Sort.flatK Tm.cs 2 D.toArray)[j]! = (tcs D).getD j (.int .i64 0) := by
  rw [Go.Sort.get_flatK _ _ _ _ (by simpa using h)]
  have h1 : j / 2 < D.length := by omega
  have h2 := tcs_get D (j / 2) (j % 2) h1 (by omega)
  rw [show j / 2 * 2 + j % 2 = j from by omega] at h2
  rw [List.getD_eq_getElem?_getD, h2]
  have e : D.toArray[j / 2]! = gt D (j / 2) := by simp [gt, h1]
  rw [e]
  obtain h3 | h3 : j % 2 = 0 ∨ j % 2 = 1 := by omega
  · rw [h3]; rfl
  · rw [h3]; rfl
set_option maxHeartbeats 2000000 in
/-- slices.SortFunc over timers of a row of the call's own: a permutation, by ticks, and of one tick by keys. -/
theorem sortTm (w : World) (base : Nat) (v : Value) (D : List Tm) (hv : w.ownsRow base 55 2 v D.length (tcs D)) (hn : 0 < D.length) (hm : D.length < 4611686018427387904) :
    Calls Try.prog 23 #[v, .func (.func 24) #[] #[]] w fun x w' => x = .returned (.tuple #[]) ∧ ∃ E : List Tm, E.Perm D ∧ (E.Pairwise fun x y => tlt y x = false) ∧ w'.ownsRow base 55 2 v E.length (tcs E) ∧ Only v.ownBlock.toList w w' := by
  rcases hv.2 with ⟨_, h0⟩ | ⟨b, cap, cur, rfl, hb, hh, hc, hcm, hs, ht⟩
  · omega
  · have ho : Ob w b 55 cur := hh
    have eg : ∀ args w, (callFunc 24 args).run Try.prog w = .ok (.enter 24 args) w := enters_of Try.func24 (by kernel_rfl) rfl
    have hcell : ∀ j, j < D.length * 2 → cur[j]? = some ((tcs D).getD j (.int .i64 0)) := fun j hj => by
      have h1 : (cur.toList.take (D.length * 2))[j]? = (tcs D)[j]? := by rw [ht]
      rw [List.getElem?_take, if_pos hj] at h1
      rw [← Array.getElem?_toList, h1, List.getD_eq_getElem?_getD, List.getElem?_eq_getElem (by rw [tcs_len]; exact hj)]
      rfl
    have hH : Go.Sort.HoldsK Tm.cs 2 w b 0 D.toArray := fun j hj => by
      have hj2 : j < D.length * 2 := by simpa using hj
      rw [Nat.zero_add, ho.cell j, flat_get D j hj2]
      exact ⟨hcell j hj2, ho.frozen j⟩
    have hcon := Go.Proofs.AnyQ.slices_SortFunc sortLays 2 Try.isAgg55 Try.sizeOf55 Tm.cs (fun _ => rfl) (fun x v hv => by simp [Tm.cs] at hv; rcases hv with rfl | rfl <;> rfl) cmpT cmpT_swo 24 #[] b 0 cap D.toArray w eg (cmpLays b 0 D.toArray.size w) hH ho.lt (by simpa using hm)
    change Calls Try.prog 23 _ _ _ at hcon
    rw [List.size_toArray] at hcon
    refine hcon.mono ?_
    rintro x w' ⟨rfl, d', m, os, hp, hsr, rfl⟩
    obtain ⟨hp1, _, hp3⟩ := hp
    have hsz : d'.size = D.length := by simpa using hp1
    have hperm : d'.toList.Perm D := by
      have e1 : (d'.extract 0 D.length).toList = d'.toList := by rw [← hsz]; simp
      have e2 : ((D.toArray).extract 0 D.length).toList = D := by simp
      rw [e1, e2] at hp3
      exact hp3
    have hget : ∀ i (hi : i < d'.size), d'[i]! = d'.toList[i]'(by simpa using hi) := fun i hi => by rw [getElem!_pos d' i hi]; simp
    have hE : d' = d'.toList.toArray := by simp
    have hbw : b < w.heap.size := ho.lt
    refine ⟨rfl, d'.toList, hperm, ?_, ?_, ?_⟩
    · rw [List.pairwise_iff_getElem]
      intro i j hi hj hij
      have h9 := hsr i j (Nat.zero_le _) hij (by rw [← hsz]; simpa using hj)
      rw [cmpT_lt, hget i (by simpa using hi), hget j (by simpa using hj)] at h9
      exact h9
    · have hl : d'.toList.length = D.length := by simpa using hsz
      rw [hl]
      refine ⟨by rw [tcs_len, hl], .inr ⟨b, cap, Go.Sort.putCells id 0 (Go.Sort.flatK Tm.cs 2 d') cur, rfl, hb, ?_, hc, hcm, by simp [Go.Sort.putCells, hs], ?_⟩⟩
      · unfold Go.Proofs.sortWorldK Go.Sort.putRowK Go.Sort.putRow Go.Sort.mapBlock
        simp only [Go.Sort.grow]
        rw [Array.getElem?_append_left (by simpa using hbw)]
        have hh2 : w.heap[b]? = some (.cells cur 55 (0, 0)) := hh
        show (w.heap.modify b _)[b]? = _
        rw [Array.getElem?_modify, if_pos rfl, hh2]
        rfl
      · apply List.ext_getElem?
        intro j
        by_cases hj : j < D.length * 2
        · rw [List.getElem?_take, if_pos hj]
          have hjc : j < cur.size := by rw [hs]; have := Nat.mul_le_mul_right 2 hc; omega
          have hjd : j < d'.size * 2 := by rw [hsz]; exact hj
          simp only [Go.Sort.putCells, Array.getElem?_toList, Array.getElem?_mapIdx]
          rw [Array.getElem?_eq_getElem hjc]
          simp only [Option.map_some, Nat.zero_le, Nat.zero_add, true_and, Nat.sub_zero, Go.Sort.size_flatK, if_pos hjd, id]
          have h7 := flat_get d'.toList j (by simpa using hjd)
          rw [← hE] at h7
          rw [h7, List.getD_eq_getElem?_getD, List.getElem?_eq_getElem (by rw [tcs_len]; simpa using hjd)]
          rfl
        · rw [List.getElem?_take, if_neg hj, List.getElem?_eq_none (by rw [tcs_len, hl]; omega)]
    · refine ⟨rfl, rfl, rfl, ?_, fun k hk hn2 => ?_⟩
      · simp [Go.Proofs.sortWorldK, Go.Sort.putRowK]
      · have hkb : k ≠ b := fun e => hn2 (by simp [Value.ownBlock, e])
        unfold Go.Proofs.sortWorldK Go.Sort.putRowK Go.Sort.putRow Go.Sort.mapBlock
        simp only [Go.Sort.grow]
        rw [Array.getElem?_append_left (by simpa using hk)]
        show (w.heap.modify b _)[k]? = _
        rw [Array.getElem?_modify, if_neg (Ne.symm hkb)]
end Go.Proofs.Ytnachendenodkaa.whl
