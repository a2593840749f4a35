/-
  Chapter 9 (icmp): buckets, the law by a walk of its text. Conditions: none but those typed.
-/
import Derived.Test.YtekanilgeigddaaIcmD
import Derived.Test.YtekanilgeigddaaArg
import Derived.Outline
namespace Go.Proofs.Ytekanilgeigddaa.icm
set_option linter.unusedVariables false
set_option linter.unusedSimpArgs false
open Go.ChangeShapes Go.WideShapes Go.ChangeAt Go.RowKit Go.IntWalk Go.Lib
theorem tokF_same (most every tok now : Int) (h : tok ≤ most) : tokF most every tok now now = tok := by
  unfold tokF
  have : now / every - now / every = 0 := by omega
  rw [this]
  omega
set_option maxRecDepth 100000 in
set_option maxHeartbeats 2000000 in
theorem take2e (w : World) (g : Nat) (most every tok last : Int) (h : Rb w g most every tok last) (hev : 1 ≤ every ∧ every ≤ 1048576) (ht : 0 ≤ tok ∧ tok ≤ most) (hm : most ≤ 1048576) :
    Calls Try.prog 30 #[.pointer (some ⟨g, 0, none⟩), .int .i64 last] w fun x w' => x = .returned (.bool (decide (tok ≠ 0))) ∧ Only [g] w w' ∧ Rb w' g most every (tok - (if tok = 0 then 0 else 1)) last := by
  have c0 := h.cell 0
  have c1 := h.cell 1
  have c2 := h.cell 2
  have c3 := h.cell 3
  have f2 := h.frozen 2
  have H := hid h; clear h
  have hz : ¬ every = 0 := by omega
  by_cases hT : tok = 0
  · subst hT
    go_enter Try.func30, Try.ntmps30
    go_wp2
    go_ret
    exact ⟨rfl, Only.refl _ _, by simpa using H.out⟩
  · have HF : Hid (decide (tok ≠ 0) = true ∧ (tok - (if tok = 0 then 0 else 1)) = tok - 1) := hid (by simp [hT])
    have hb : (tok == 0) = false := by simpa using hT
    go_enter Try.func30, Try.ntmps30
    go_wp2
    go_ret
    exact ⟨rBool (by first | rfl | exact HF.out.1.symm), (Only.refl _ _).setCell (p := ⟨g, 2, none⟩) (Or.inl (by simp)) _, by first | exact Rb.mk (H.out.set 2 (.int .i64 (tok - 1))) rfl rfl rfl rfl | (rw [HF.out.2]; exact Rb.mk (H.out.set 2 (.int .i64 (tok - 1))) rfl rfl rfl rfl)⟩
theorem take2a (w : World) (g : Nat) (most every tok last now : Int) (h : Rb w g most every tok last) (hm : 1 ≤ most ∧ most ≤ 1048576) (hev : 1 ≤ every ∧ every ≤ 1048576) (ht : 0 ≤ tok ∧ tok ≤ most) (hl : 0 ≤ last ∧ last ≤ now) (hn : now ≤ 4611686018427387904) :
    Calls Try.prog 30 #[.pointer (some ⟨g, 0, none⟩), .int .i64 now] w fun x w' => x = .returned (.bool (decide (tokF most every tok last now ≠ 0))) ∧ Only [g] w w' ∧ Rb w' g most every (tokF most every tok last now - (if tokF most every tok last now = 0 then 0 else 1)) now := by
  by_cases he : last = now
  · subst he
    rw [tokF_same most every tok last ht.2]
    exact take2e w g most every tok last h hev ht hm.2
  · exact take2 w g most every tok last now h hm hev ht (by omega) hn
/-- NewBucket, of numbers that serve. -/
theorem new1 (w : World) (most every : Int) (hm : 1 ≤ most ∧ most ≤ 1048576) (hev : 1 ≤ every ∧ every ≤ 1048576) :
    Calls Try.prog 27 #[.int .i64 most, .int .i64 every] w fun x w' => x = .returned (.tuple #[.pointer (some ⟨w.heap.size, 0, none⟩), .int .i64 0]) ∧ Bk w' w.heap.size most every most 0 ∧ Only [] w w' ∧ w.heap.size < w'.heap.size := by
  obtain ⟨h1, h2⟩ := hm
  obtain ⟨h3, h4⟩ := hev
  have HB : Hid (Bk (w.alloc (.cells #[.int .i64 most, .int .i64 every, .int .i64 most, .int .i64 0] 80)) w.heap.size most every most 0) := hid (Ob.new _ _ _)
  go_enter Try.func27, Try.ntmps27
  go_wp2
  go_ret2
  exact ⟨rfl, HB.out, (Only.refl [] w).alloc _, by simp⟩
theorem new2 (w : World) (most every : Int) (hm : 1 ≤ most ∧ most ≤ 1048576) (hev : 1 ≤ every ∧ every ≤ 1048576) :
    Calls Try.prog 28 #[.int .i64 most, .int .i64 every] w fun x w' => x = .returned (.tuple #[.pointer (some ⟨w.heap.size, 0, none⟩), .int .i64 0]) ∧ Rb w' w.heap.size most every most 0 ∧ Only [] w w' ∧ w.heap.size < w'.heap.size := by
  obtain ⟨h1, h2⟩ := hm
  obtain ⟨h3, h4⟩ := hev
  have HB : Hid (Rb (w.alloc (.cells #[.int .i64 most, .int .i64 every, .int .i64 most, .int .i64 0] 82)) w.heap.size most every most 0) := hid (Ob.new _ _ _)
  go_enter Try.func28, Try.ntmps28
  go_wp2
  go_ret2
  exact ⟨rfl, HB.out, (Only.refl [] w).alloc _, by simp⟩
theorem new1Bad (w : World) (most every : Int) (h : most < 1 ∨ 1048576 < most ∨ every < 1 ∨ 1048576 < every) :
    Calls Try.prog 27 #[.int .i64 most, .int .i64 every] w fun x w' => x = .returned (.tuple #[.pointer none, .int .i64 1]) ∧ w = w' := by
  by_cases h1 : most < 1
  · go_enter Try.func27, Try.ntmps27
    go_wp2
    go_ret2
    exact ⟨rfl, rfl⟩
  · by_cases h2 : 1048576 < most
    · go_enter Try.func27, Try.ntmps27
      go_wp2
      go_ret2
      exact ⟨rfl, rfl⟩
    · have d1 : decide (most < 1) = false := by simpa using h1
      have d2 : decide (1048576 < most) = false := by simpa using h2
      by_cases h3 : every < 1
      · have d3 : decide (every < 1) = true := by simpa using h3
        go_enter Try.func27, Try.ntmps27
        go_wp2
        go_ret2
        exact ⟨rfl, rfl⟩
      · have d3 : decide (every < 1) = false := by simpa using h3
        have h4 : 1048576 < every := by omega
        have d4 : decide (1048576 < every) = true := by simpa using h4
        clear h
        go_enter Try.func27, Try.ntmps27
        go_wp2
        go_ret2
        exact ⟨rfl, rfl⟩
theorem new2Bad (w : World) (most every : Int) (h : most < 1 ∨ 1048576 < most ∨ every < 1 ∨ 1048576 < every) :
    Calls Try.prog 28 #[.int .i64 most, .int .i64 every] w fun x w' => x = .returned (.tuple #[.pointer none, .int .i64 1]) ∧ w = w' := by
  by_cases h1 : most < 1
  · go_enter Try.func28, Try.ntmps28
    go_wp2
    go_ret2
    exact ⟨rfl, rfl⟩
  · by_cases h2 : 1048576 < most
    · go_enter Try.func28, Try.ntmps28
      go_wp2
      go_ret2
      exact ⟨rfl, rfl⟩
    · have d1 : decide (most < 1) = false := by simpa using h1
      have d2 : decide (1048576 < most) = false := by simpa using h2
      by_cases h3 : every < 1
      · have d3 : decide (every < 1) = true := by simpa using h3
        go_enter Try.func28, Try.ntmps28
        go_wp2
        go_ret2
        exact ⟨rfl, rfl⟩
      · have d3 : decide (every < 1) = false := by simpa using h3
        have h4 : 1048576 < every := by omega
        have d4 : decide (1048576 < every) = true := by simpa using h4
        clear h
        go_enter Try.func28, Try.ntmps28
        go_wp2
        go_ret2
        exact ⟨rfl, rfl⟩
/-- The ticks behind the first j steps. -/
def nowF (by' : List Int) : Nat → Int
  | 0 => 0
  | j + 1 => nowF by' j + max 0 (min (by'.getD j 0) 1073741824)
theorem nowF_bd (by' : List Int) : ∀ j, 0 ≤ nowF by' j ∧ nowF by' j ≤ 1073741824 * j
  | 0 => by simp [nowF]
  | j + 1 => by have := nowF_bd by' j; simp only [nowF]; omega
set_option maxRecDepth 100000 in
set_option maxHeartbeats 4000000 in
theorem bucketsOk (w : World) (much every : Int) (A : Option Addr) (n c : Nat) (l : List Int) (hl : Rd .i64 w A n l) (hn : n ≤ 400) (hm : 1 ≤ much ∧ much ≤ 1048576) (hev : 1 ≤ every ∧ every ≤ 1048576) :
    Calls Try.prog 9 #[.int .i64 much, .int .i64 every, .slice A n c] w fun x w' => x = .returned (.bool true) ∧ Only [] w w' := by
  have HL := hid hl; clear hl
  have kp : ∀ (w : World) (g : Nat), Sem.run Try.prog (binOp BinOp.eql 56 (Value.pointer (some ⟨g, 0, none⟩)) (Value.pointer none)) w = Result.ok (Value.bool false) w := fun _ _ => by kernel_rfl
  go_enter Try.func9, Try.ntmps9
  go_wp2_with fail
  refine (new1 w much every hm hev).mono ?_
  rintro x w1 ⟨rfl, hb, o1, hs1⟩
  have HB := hid hb; have Q1 := hid o1; clear hb o1
  go_wp2_with fail
  refine (new2 w1 much every hm hev).mono ?_
  rintro x w2 ⟨rfl, hr, o2, hs2⟩
  have HB := hid (Ob.only HB.out o2 (by simp)); have HR := hid hr; have Q2 := hid (Q1.out.trans o2); clear hr o2
  have hne : ¬ w.heap.size = w1.heap.size := by omega
  have hne' : ¬ w1.heap.size = w.heap.size := by omega
  generalize w1.heap.size = g2 at *
  go_wp2_with fail
  go_loopw [11, 12, 13] (fun t k i wr => ∃ (j : Nat) (tok cnt : Int), j ≤ n ∧ i = .int .i64 j ∧ t = .int .i64 (nowF l j) ∧ k = .int .i64 cnt ∧ 0 ≤ tok ∧ tok ≤ much ∧ 0 ≤ cnt ∧ cnt + tok ≤ much + nowF l j / every ∧ Hid (Bk wr w.heap.size much every tok (nowF l j)) ∧ Hid (Rb wr g2 much every tok (nowF l j)) ∧ Hid (Only [] w wr)) (fun _ _ i _ => n - (intOf i).toNat)
  case atStart => exact ⟨0, much, 0, by omega, rfl, rfl, rfl, by omega, by omega, by omega, by simp [nowF], HB, HR, Q2⟩
  case round =>
    obtain ⟨j, tok, cnt, hj, rfl, rfl, rfl, ht0, ht1, hc0, hc1, HBk, HRb, HQ⟩ := hrel
    by_cases hlt : j < n
    · obtain ⟨b, off, rfl, hbk, hc⟩ := (HL.out.only_nil HQ.out).at_ (by omega)
      have q0 := hc j hlt
      have hx := i64Bd (HL.out.getD_wf j hlt)
      have HN : Hid (nowF l (j + 1) = nowF l j + max 0 (min (l.getD j 0) 1073741824)) := hid rfl
      have hb0 := nowF_bd l j
      clear hc
      generalize l.getD j 0 = x at *
      generalize nowF l j = t0 at *
      have HN0 := HN; clear HN
      have hj400 : (j : Int) ≤ 400 := by omega
      by_cases hx0 : x ≤ 0
      · have HN : Hid (nowF l (j + 1) = t0) := hid (by rw [HN0.out]; omega)
        clear HN0
        have hq1 : 0 ≤ t0 / every := Int.ediv_nonneg (by omega) (by omega)
        have hq3 : t0 / every ≤ t0 := Int.ediv_le_self _ (by omega)
        have hcb : cnt ≤ 4611686018427387904 := by omega
        have hq2 : t0 / every ≤ t0 / every := Int.ediv_le_ediv (by omega) (by omega)
        have hF : tokF much every tok t0 t0 = min much (tok + (t0 / every - t0 / every)) := rfl
        generalize hTV : tokF much every tok t0 t0 = tv at *
        have HTV := hid hTV; clear hTV
        have hF1 : tv ≤ tok + (t0 / every - t0 / every) ∧ tv ≤ much ∧ 0 ≤ tv := by omega
        clear hF
        obtain ⟨hF1, hF2, hF3⟩ := hF1
        by_cases hT : tv = 0
        · have HD : Hid (decide (tokF much every tok t0 t0 ≠ 0) = false) := hid (by rw [HTV.out]; simpa using hT)
          have HV : Hid (tokF much every tok t0 t0 - (if tokF much every tok t0 t0 = 0 then 0 else 1) = 0) := hid (by rw [HTV.out, hT]; rfl)
          have HT := hid hT; clear hT
          go_wp2_with fail
          refine (take1 wr w.heap.size much every tok t0 t0 HBk.out hm hev ⟨ht0, ht1⟩ ⟨hb0.1, by omega⟩ (by omega)).mono ?_
          rintro e w3 ⟨rfl, o3, hb3⟩
          rw [HD.out]
          rw [HV.out] at hb3
          have B3 := hid hb3; have R3 := hid (Ob.only HRb.out o3 (by simpa using hne')); have Q3 := hid (HQ.out.fresh o3 (by simp)); clear hb3 o3
          go_wp2_with fail
          refine (take2a w3 g2 much every tok t0 t0 R3.out hm hev ⟨ht0, ht1⟩ ⟨hb0.1, by omega⟩ (by omega)).mono ?_
          rintro e w4 ⟨rfl, o4, hr4⟩
          rw [HD.out]
          rw [HV.out] at hr4
          have R4 := hid hr4; have B4 := hid (Ob.only B3.out o4 (by simpa using hne)); have Q4 := hid (Q3.out.fresh o4 (by intro i hi; simp at hi; right; omega)); clear hr4 o4
          go_wp2
          go_roundw
          case rel => exact ⟨j + 1, 0, cnt, by omega, by go_num, by rw [HN.out], rfl, by omega, by omega, by omega, by rw [HN.out]; omega, hid (by rw [HN.out]; exact B4.out), hid (by rw [HN.out]; exact R4.out), Q4⟩
          case measure => simp [intOf]; omega
        · have HD : Hid (decide (tokF much every tok t0 t0 ≠ 0) = true) := hid (by rw [HTV.out]; simpa using hT)
          have HV : Hid (tokF much every tok t0 t0 - (if tokF much every tok t0 t0 = 0 then 0 else 1) = tv - 1) := hid (by rw [HTV.out, if_neg hT])
          have hT1 : 1 ≤ tv := by omega
          clear hT
          go_wp2_with fail
          refine (take1 wr w.heap.size much every tok t0 t0 HBk.out hm hev ⟨ht0, ht1⟩ ⟨hb0.1, by omega⟩ (by omega)).mono ?_
          rintro e w3 ⟨rfl, o3, hb3⟩
          rw [HD.out]
          rw [HV.out] at hb3
          have B3 := hid hb3; have R3 := hid (Ob.only HRb.out o3 (by simpa using hne')); have Q3 := hid (HQ.out.fresh o3 (by simp)); clear hb3 o3
          go_wp2_with fail
          refine (take2a w3 g2 much every tok t0 t0 R3.out hm hev ⟨ht0, ht1⟩ ⟨hb0.1, by omega⟩ (by omega)).mono ?_
          rintro e w4 ⟨rfl, o4, hr4⟩
          rw [HD.out]
          rw [HV.out] at hr4
          have R4 := hid hr4; have B4 := hid (Ob.only B3.out o4 (by simpa using hne)); have Q4 := hid (Q3.out.fresh o4 (by intro i hi; simp at hi; right; omega)); clear hr4 o4
          go_wp2
          go_roundw
          case rel => exact ⟨j + 1, tv - 1, cnt + 1, by omega, by go_num, by rw [HN.out], rfl, by omega, by omega, by omega, by rw [HN.out]; omega, hid (by rw [HN.out]; exact B4.out), hid (by rw [HN.out]; exact R4.out), Q4⟩
          case measure => simp [intOf]; omega
      · by_cases hx1 : 1073741824 < x
        · have HN : Hid (nowF l (j + 1) = (t0 + 1073741824)) := hid (by rw [HN0.out]; omega)
          clear HN0
          have hq1 : 0 ≤ t0 / every := Int.ediv_nonneg (by omega) (by omega)
          have hq3 : t0 / every ≤ t0 := Int.ediv_le_self _ (by omega)
          have hcb : cnt ≤ 4611686018427387904 := by omega
          have hq2 : t0 / every ≤ (t0 + 1073741824) / every := Int.ediv_le_ediv (by omega) (by omega)
          have hF : tokF much every tok t0 (t0 + 1073741824) = min much (tok + ((t0 + 1073741824) / every - t0 / every)) := rfl
          generalize hTV : tokF much every tok t0 (t0 + 1073741824) = tv at *
          have HTV := hid hTV; clear hTV
          have hF1 : tv ≤ tok + ((t0 + 1073741824) / every - t0 / every) ∧ tv ≤ much ∧ 0 ≤ tv := by omega
          clear hF
          obtain ⟨hF1, hF2, hF3⟩ := hF1
          by_cases hT : tv = 0
          · have HD : Hid (decide (tokF much every tok t0 (t0 + 1073741824) ≠ 0) = false) := hid (by rw [HTV.out]; simpa using hT)
            have HV : Hid (tokF much every tok t0 (t0 + 1073741824) - (if tokF much every tok t0 (t0 + 1073741824) = 0 then 0 else 1) = 0) := hid (by rw [HTV.out, hT]; rfl)
            have HT := hid hT; clear hT
            go_wp2_with fail
            refine (take1 wr w.heap.size much every tok t0 (t0 + 1073741824) HBk.out hm hev ⟨ht0, ht1⟩ ⟨hb0.1, by omega⟩ (by omega)).mono ?_
            rintro e w3 ⟨rfl, o3, hb3⟩
            rw [HD.out]
            rw [HV.out] at hb3
            have B3 := hid hb3; have R3 := hid (Ob.only HRb.out o3 (by simpa using hne')); have Q3 := hid (HQ.out.fresh o3 (by simp)); clear hb3 o3
            go_wp2_with fail
            refine (take2a w3 g2 much every tok t0 (t0 + 1073741824) R3.out hm hev ⟨ht0, ht1⟩ ⟨hb0.1, by omega⟩ (by omega)).mono ?_
            rintro e w4 ⟨rfl, o4, hr4⟩
            rw [HD.out]
            rw [HV.out] at hr4
            have R4 := hid hr4; have B4 := hid (Ob.only B3.out o4 (by simpa using hne)); have Q4 := hid (Q3.out.fresh o4 (by intro i hi; simp at hi; right; omega)); clear hr4 o4
            go_wp2
            go_roundw
            case rel => exact ⟨j + 1, 0, cnt, by omega, by go_num, by rw [HN.out], rfl, by omega, by omega, by omega, by rw [HN.out]; omega, hid (by rw [HN.out]; exact B4.out), hid (by rw [HN.out]; exact R4.out), Q4⟩
            case measure => simp [intOf]; omega
          · have HD : Hid (decide (tokF much every tok t0 (t0 + 1073741824) ≠ 0) = true) := hid (by rw [HTV.out]; simpa using hT)
            have HV : Hid (tokF much every tok t0 (t0 + 1073741824) - (if tokF much every tok t0 (t0 + 1073741824) = 0 then 0 else 1) = tv - 1) := hid (by rw [HTV.out, if_neg hT])
            have hT1 : 1 ≤ tv := by omega
            clear hT
            go_wp2_with fail
            refine (take1 wr w.heap.size much every tok t0 (t0 + 1073741824) HBk.out hm hev ⟨ht0, ht1⟩ ⟨hb0.1, by omega⟩ (by omega)).mono ?_
            rintro e w3 ⟨rfl, o3, hb3⟩
            rw [HD.out]
            rw [HV.out] at hb3
            have B3 := hid hb3; have R3 := hid (Ob.only HRb.out o3 (by simpa using hne')); have Q3 := hid (HQ.out.fresh o3 (by simp)); clear hb3 o3
            go_wp2_with fail
            refine (take2a w3 g2 much every tok t0 (t0 + 1073741824) R3.out hm hev ⟨ht0, ht1⟩ ⟨hb0.1, by omega⟩ (by omega)).mono ?_
            rintro e w4 ⟨rfl, o4, hr4⟩
            rw [HD.out]
            rw [HV.out] at hr4
            have R4 := hid hr4; have B4 := hid (Ob.only B3.out o4 (by simpa using hne)); have Q4 := hid (Q3.out.fresh o4 (by intro i hi; simp at hi; right; omega)); clear hr4 o4
            go_wp2
            go_roundw
            case rel => exact ⟨j + 1, tv - 1, cnt + 1, by omega, by go_num, by rw [HN.out], rfl, by omega, by omega, by omega, by rw [HN.out]; omega, hid (by rw [HN.out]; exact B4.out), hid (by rw [HN.out]; exact R4.out), Q4⟩
            case measure => simp [intOf]; omega
        · have hp0 : 0 < x := by omega
          have hp1 : x ≤ 1073741824 := by omega
          clear hx0 hx1
          have HN : Hid (nowF l (j + 1) = (t0 + x)) := hid (by rw [HN0.out]; omega)
          clear HN0
          have hq1 : 0 ≤ t0 / every := Int.ediv_nonneg (by omega) (by omega)
          have hq3 : t0 / every ≤ t0 := Int.ediv_le_self _ (by omega)
          have hcb : cnt ≤ 4611686018427387904 := by omega
          have hq2 : t0 / every ≤ (t0 + x) / every := Int.ediv_le_ediv (by omega) (by omega)
          have hF : tokF much every tok t0 (t0 + x) = min much (tok + ((t0 + x) / every - t0 / every)) := rfl
          generalize hTV : tokF much every tok t0 (t0 + x) = tv at *
          have HTV := hid hTV; clear hTV
          have hF1 : tv ≤ tok + ((t0 + x) / every - t0 / every) ∧ tv ≤ much ∧ 0 ≤ tv := by omega
          clear hF
          obtain ⟨hF1, hF2, hF3⟩ := hF1
          by_cases hT : tv = 0
          · have HD : Hid (decide (tokF much every tok t0 (t0 + x) ≠ 0) = false) := hid (by rw [HTV.out]; simpa using hT)
            have HV : Hid (tokF much every tok t0 (t0 + x) - (if tokF much every tok t0 (t0 + x) = 0 then 0 else 1) = 0) := hid (by rw [HTV.out, hT]; rfl)
            have HT := hid hT; clear hT
            go_wp2_with fail
            refine (take1 wr w.heap.size much every tok t0 (t0 + x) HBk.out hm hev ⟨ht0, ht1⟩ ⟨hb0.1, by omega⟩ (by omega)).mono ?_
            rintro e w3 ⟨rfl, o3, hb3⟩
            rw [HD.out]
            rw [HV.out] at hb3
            have B3 := hid hb3; have R3 := hid (Ob.only HRb.out o3 (by simpa using hne')); have Q3 := hid (HQ.out.fresh o3 (by simp)); clear hb3 o3
            go_wp2_with fail
            refine (take2a w3 g2 much every tok t0 (t0 + x) R3.out hm hev ⟨ht0, ht1⟩ ⟨hb0.1, by omega⟩ (by omega)).mono ?_
            rintro e w4 ⟨rfl, o4, hr4⟩
            rw [HD.out]
            rw [HV.out] at hr4
            have R4 := hid hr4; have B4 := hid (Ob.only B3.out o4 (by simpa using hne)); have Q4 := hid (Q3.out.fresh o4 (by intro i hi; simp at hi; right; omega)); clear hr4 o4
            go_wp2
            go_roundw
            case rel => exact ⟨j + 1, 0, cnt, by omega, by go_num, by rw [HN.out], rfl, by omega, by omega, by omega, by rw [HN.out]; omega, hid (by rw [HN.out]; exact B4.out), hid (by rw [HN.out]; exact R4.out), Q4⟩
            case measure => simp [intOf]; omega
          · have HD : Hid (decide (tokF much every tok t0 (t0 + x) ≠ 0) = true) := hid (by rw [HTV.out]; simpa using hT)
            have HV : Hid (tokF much every tok t0 (t0 + x) - (if tokF much every tok t0 (t0 + x) = 0 then 0 else 1) = tv - 1) := hid (by rw [HTV.out, if_neg hT])
            have hT1 : 1 ≤ tv := by omega
            clear hT
            go_wp2_with fail
            refine (take1 wr w.heap.size much every tok t0 (t0 + x) HBk.out hm hev ⟨ht0, ht1⟩ ⟨hb0.1, by omega⟩ (by omega)).mono ?_
            rintro e w3 ⟨rfl, o3, hb3⟩
            rw [HD.out]
            rw [HV.out] at hb3
            have B3 := hid hb3; have R3 := hid (Ob.only HRb.out o3 (by simpa using hne')); have Q3 := hid (HQ.out.fresh o3 (by simp)); clear hb3 o3
            go_wp2_with fail
            refine (take2a w3 g2 much every tok t0 (t0 + x) R3.out hm hev ⟨ht0, ht1⟩ ⟨hb0.1, by omega⟩ (by omega)).mono ?_
            rintro e w4 ⟨rfl, o4, hr4⟩
            rw [HD.out]
            rw [HV.out] at hr4
            have R4 := hid hr4; have B4 := hid (Ob.only B3.out o4 (by simpa using hne)); have Q4 := hid (Q3.out.fresh o4 (by intro i hi; simp at hi; right; omega)); clear hr4 o4
            go_wp2
            go_roundw
            case rel => exact ⟨j + 1, tv - 1, cnt + 1, by omega, by go_num, by rw [HN.out], rfl, by omega, by omega, by omega, by rw [HN.out]; omega, hid (by rw [HN.out]; exact B4.out), hid (by rw [HN.out]; exact R4.out), Q4⟩
            case measure => simp [intOf]; omega
    · obtain rfl : j = n := by omega
      have hb0 := nowF_bd l j
      generalize nowF l j = t0 at *
      have hq1 : 0 ≤ t0 / every := Int.ediv_nonneg (by omega) (by omega)
      have hq2 : t0 / every ≤ t0 := Int.ediv_le_self _ (by omega)
      have hd : decide (cnt ≤ much + t0 / every) = true := by simp; omega
      have hz : ¬ every = 0 := by omega
      go_wp2_with fail
      refine (known _).mono ?_
      rintro e w3 ⟨rfl, o3⟩
      have Q3 := hid (HQ.out.trans o3); clear o3
      go_wp2
      go_ret
      exact ⟨rfl, Q3.out⟩
theorem bucketsLong (w : World) (much every : Int) (A : Option Addr) (n c : Nat) (hn : 400 < n) :
    Calls Try.prog 9 #[.int .i64 much, .int .i64 every, .slice A n c] w fun x w' => x = .returned (.bool true) ∧ Only [] w w' := by
  go_enter Try.func9, Try.ntmps9
  go_wp2_with fail
  refine (known _).mono ?_
  rintro e w3 ⟨rfl, o3⟩
  have Q3 := hid o3; clear o3
  go_wp2
  go_ret
  exact ⟨rfl, Q3.out⟩
theorem bucketsBad (w : World) (much every : Int) (A : Option Addr) (n c : Nat) (hn : n ≤ 400) (h : much < 1 ∨ 1048576 < much ∨ every < 1 ∨ 1048576 < every) :
    Calls Try.prog 9 #[.int .i64 much, .int .i64 every, .slice A n c] w fun x w' => x = .returned (.bool true) ∧ Only [] w w' := by
  have H := hid h; clear h
  have kp : ∀ (w : World), Sem.run Try.prog (binOp BinOp.eql 56 (Value.pointer none) (Value.pointer none)) w = Result.ok (Value.bool true) w := fun _ => by kernel_rfl
  go_enter Try.func9, Try.ntmps9
  go_wp2_with fail
  refine (new1Bad w much every H.out).mono ?_
  rintro x w1 ⟨rfl, rfl⟩
  go_wp2_with fail
  refine (new2Bad w much every H.out).mono ?_
  rintro x w1 ⟨rfl, rfl⟩
  go_wp2_with fail
  refine (known _).mono ?_
  rintro e w3 ⟨rfl, o3⟩
  have Q3 := hid o3; clear o3
  go_wp2
  go_ret
  exact ⟨rfl, Q3.out⟩
theorem buckets (w : World) (much every : Int) (A : Option Addr) (n c : Nat) (l : List Int) (hl : Rd .i64 w A n l) :
    Calls Try.prog 9 #[.int .i64 much, .int .i64 every, .slice A n c] w fun x w' => x = .returned (.bool true) ∧ Only [] w w' := by
  by_cases hn : 400 < n
  · exact bucketsLong w much every A n c hn
  · by_cases h : (1 ≤ much ∧ much ≤ 1048576) ∧ (1 ≤ every ∧ every ≤ 1048576)
    · exact bucketsOk w much every A n c l hl (by omega) h.1 h.2
    · exact bucketsBad w much every A n c (by omega) (by omega)
end Go.Proofs.Ytekanilgeigddaa.icm
