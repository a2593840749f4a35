/-
  Chapter 8 (route): what fits an address, by a walk of each text. Conditions: none but those typed.
-/
import Derived.Test.YtoidpakenocllaaRtI
namespace Go.Proofs.Ytoidpakenocllaa.rou
set_option linter.unusedVariables false
set_option linter.unusedSimpArgs false
open Go.ChangeShapes Go.WideShapes Go.ChangeAt Go.RowKit Go.IntWalk Go.Lib
theorem low_clear (N s : Nat) (hN : N < 2 ^ 32) (hs : s < 32) : N &&& (2 ^ 32 - (2 ^ s - 1 + 1)) = N / 2 ^ s * 2 ^ s := by
  apply Nat.eq_of_testBit_eq
  intro i
  have hl : 2 ^ s - 1 < 2 ^ 32 := by
    have := Nat.pow_lt_pow_right (a := 2) (by omega) hs
    omega
  rw [Nat.testBit_and, Nat.testBit_two_pow_sub_succ hl, Nat.testBit_two_pow_sub_one, Nat.testBit_mul_two_pow]
  by_cases h : i < s
  · have : ¬ s ≤ i := by omega
    simp [h, this]
  · have h2 : s ≤ i := by omega
    rw [Nat.testBit_div_two_pow]
    by_cases h3 : i < 32
    · simp [h, h2, h3, show i - s + s = i by omega]
    · have : N.testBit i = false := Nat.testBit_lt_two_pow (Nat.lt_of_lt_of_le hN (Nat.pow_le_pow_right (by omega) (by omega)))
      simp [h, h2, this, show i - s + s = i by omega]
/-- The mask of the highest bits. -/
def mz (b : Nat) : Int := if b = 0 then 0 else 4294967295 * 2 ^ (32 - b) % 4294967296
theorem mz_pos {b : Nat} (h0 : 0 < b) (hb : b ≤ 32) : mz b = ((4294967296 - 2 ^ (32 - b) : Nat) : Int) := by
  unfold mz
  rw [if_neg (by omega)]
  have hle : (2 : Nat) ^ (32 - b) ≤ 2 ^ 31 := Nat.pow_le_pow_right (by omega) (by omega)
  have hp : 0 < (2 : Nat) ^ (32 - b) := Nat.pow_pos (by omega)
  have e : (2 : Int) ^ (32 - b) = ((2 ^ (32 - b) : Nat) : Int) := by simp
  rw [e]
  generalize 2 ^ (32 - b) = q at *
  omega
theorem pre_nat (N b : Nat) (hb : b ≤ 32) : pre (N : Int) b * 2 ^ (32 - b) = ((N / 2 ^ (32 - b) * 2 ^ (32 - b) : Nat) : Int) := by unfold pre; simp
theorem and_mask (a : Int) (b : Nat) (h : 0 ≤ a ∧ a ≤ 4294967295) (hb : b ≤ 32) : bits .and .u32 a (mz b) = pre a b * 2 ^ (32 - b) := by
  obtain ⟨N, rfl⟩ := Int.eq_ofNat_of_zero_le h.1
  have hN : N < 2 ^ 32 := by omega
  by_cases h0 : b = 0
  · subst h0
    rw [pre_zero h.1 h.2]
    show bits .and .u32 (N : Int) ((0 : Nat) : Int) = _
    rw [u32_and_nat N 0 (by omega) (by omega)]; simp
  · rw [mz_pos (by omega) hb]
    have hp : 0 < (2 : Nat) ^ (32 - b) := Nat.pow_pos (by omega)
    have hle : (2 : Nat) ^ (32 - b) ≤ 2 ^ 31 := Nat.pow_le_pow_right (by omega) (by omega)
    rw [u32_and_nat N _ (by omega) (by omega), pre_nat N b hb, ← low_clear N (32 - b) hN (by omega)]
    congr 2
    generalize 2 ^ (32 - b) = q at *
    omega
theorem not_mask (a : Int) (b : Nat) (h : 0 ≤ a ∧ a ≤ 4294967295) (hb : b ≤ 32) : (bits .andNot .u32 a (mz b) = 0) ↔ a = pre a b * 2 ^ (32 - b) := by
  obtain ⟨N, rfl⟩ := Int.eq_ofNat_of_zero_le h.1
  have hN : N < 2 ^ 32 := by omega
  by_cases h0 : b = 0
  · subst h0
    rw [pre_zero h.1 h.2]
    show bits .andNot .u32 (N : Int) ((0 : Nat) : Int) = 0 ↔ _
    rw [u32_andNot_nat N 0 (by omega) (by omega), show (4294967295 - 0 : Nat) = 2 ^ 32 - 1 from rfl, Nat.and_two_pow_sub_one_eq_mod, Nat.mod_eq_of_lt hN]; simp
  · rw [mz_pos (by omega) hb]
    have hp : 0 < (2 : Nat) ^ (32 - b) := Nat.pow_pos (by omega)
    have hle : (2 : Nat) ^ (32 - b) ≤ 2 ^ 31 := Nat.pow_le_pow_right (by omega) (by omega)
    have hd := Nat.div_add_mod N (2 ^ (32 - b))
    rw [u32_andNot_nat N _ (by omega) (by omega), pre_nat N b hb, show 4294967295 - (4294967296 - 2 ^ (32 - b)) = 2 ^ (32 - b) - 1 from by generalize 2 ^ (32 - b) = q at *; omega, Nat.and_two_pow_sub_one_eq_mod, Nat.mul_comm (N / _)]
    generalize 2 ^ (32 - b) * (N / 2 ^ (32 - b)) = p at *
    generalize N % 2 ^ (32 - b) = q at *
    omega
set_option maxRecDepth 100000 in
theorem mask1 (w : World) (b : Nat) (hb : b ≤ 32) : Calls Try.prog 21 #[.int .i64 (b : Int)] w fun x w' => x = .returned (.int .u32 (mz b)) ∧ w = w' := by
  by_cases h0 : b = 0
  · subst h0
    go_enter Try.func21, Try.ntmps21
    go_wp2_with fail
    go_ret
    exact ⟨rfl, rfl⟩
  · have HE : Hid (4294967295 * 2 ^ (32 - b) % 4294967296 = mz b) := hid (by unfold mz; rw [if_neg h0])
    have h1 : ((b : Int) == 0) = false := by simpa using (by omega : ¬ (b : Int) = 0)
    clear h0
    go_enter Try.func21, Try.ntmps21
    go_wp2_with fail
    go_ret
    exact ⟨by rw [← HE.out]; rfl, rfl⟩
set_option maxRecDepth 100000 in
theorem fits1 (w : World) (r : Rt) (a : Int) (b : Nat) (hr : r.bits = (b : Int)) (hb : b ≤ 32) (ha : 0 ≤ a ∧ a ≤ 4294967295) : Calls Try.prog 17 #[.agg #[.int .u32 r.net, .int .i64 r.bits, .int .u32 r.via, .int .i64 r.met], .int .u32 a] w fun x w' => x = .returned (.bool (pre a b * 2 ^ (32 - b) == r.net)) ∧ Only [] w w' := by
  obtain ⟨rn, rb, rv, rm⟩ := r
  simp only at hr
  subst hr
  have HM := hid (and_mask a b ha hb)
  obtain ⟨W0, hW0⟩ : ∃ W0, w.alloc (.cells #[.int .u32 rn, .int .i64 (b : Int), .int .u32 rv, .int .i64 rm] 34) = W0 := ⟨_, rfl⟩
  have OB : Hid (Ob W0 w.heap.size 34 #[.int .u32 rn, .int .i64 (b : Int), .int .u32 rv, .int .i64 rm]) := hid (by rw [← hW0]; exact Ob.new _ _ _)
  have Q0 : Hid (Only [] w W0) := hid (by rw [← hW0]; exact (Only.refl [] w).alloc _)
  go_enter Try.func17, Try.ntmps17
  go_wp2_with fail
  refine wp_region_noPanic ?_
  refine rgn.regionT (R := Only []) (by kernel_rfl) (Only.refl []) (fun _ _ _ => Only.trans) (fun _ _ _ _ _ h => h) (.y 0 (.y 1 (.y 2 (.y 5 (.y 6 (.e 3 (.y 4 (.y 7 (.e 8 .z))))))))) (by kernel_rfl) (fun W hWd => ?_)
  have HWd := hid hWd; clear hWd
  have q8 : Only [] W0 W := Only.eq_drew (Only.refl [] _) HWd.out
  have OBW := hid (OB.out.only q8 (by simp)); have QW := hid (Q0.out.trans q8)
  clear q8 HWd
  refine rgn.Walk.ys (v := ?_) rfl rfl rfl ?_ ?_
  rotate_left 1
  · intro W' hW'
    go_simp
    try with_reducible rfl
  try simp only [Act.put, List.setIfInBounds_toArray, List.set_cons_zero, List.set_cons_succ]
  refine rgn.Walk.ys (v := ?_) rfl rfl rfl ?_ ?_
  rotate_left 1
  · intro W' hW'
    go_simp
    try with_reducible rfl
  try simp only [Act.put, List.setIfInBounds_toArray, List.set_cons_zero, List.set_cons_succ]
  refine rgn.Walk.ys (v := ?_) rfl rfl rfl ?_ ?_
  rotate_left 1
  · intro W' hW'
    have q0 := hW'.keep (OBW.out.cell 1)
    go_simp
    try with_reducible rfl
  try simp only [Act.put, List.setIfInBounds_toArray, List.set_cons_zero, List.set_cons_succ]
  refine rgn.Walk.ys (v := ?_) rfl rfl rfl ?_ ?_
  rotate_left 1
  · intro W' hW'
    go_simp
    try with_reducible rfl
  try simp only [Act.put, List.setIfInBounds_toArray, List.set_cons_zero, List.set_cons_succ]
  refine rgn.Walk.ys (v := ?_) rfl rfl rfl ?_ ?_
  rotate_left 1
  · intro W' hW'
    have q0 := hW'.keep (OBW.out.cell 0)
    go_simp
    try with_reducible rfl
  try simp only [Act.put, List.setIfInBounds_toArray, List.set_cons_zero, List.set_cons_succ]
  refine rgn.Walk.es ?_
  refine rgn.stepE rfl rfl (fun K hK => ?_)
  go_simp
  refine (mask1 _ b hb).mono ?_
  rintro x w5 ⟨rfl, e5⟩
  subst e5
  refine hK _ _ (Only.refl _ _) ?_
  clear hK K
  try simp only [Act.put, List.setIfInBounds_toArray, List.set_cons_zero, List.set_cons_succ]
  refine rgn.Walk.ys (v := ?_) rfl rfl rfl ?_ ?_
  rotate_left 1
  · intro W' hW'
    have hm := HM.out
    go_simp
    try with_reducible rfl
  try simp only [Act.put, List.setIfInBounds_toArray, List.set_cons_zero, List.set_cons_succ]
  refine rgn.Walk.ys (v := ?_) rfl rfl rfl ?_ ?_
  rotate_left 1
  · intro W' hW'
    go_simp
    try with_reducible rfl
  try simp only [Act.put, List.setIfInBounds_toArray, List.set_cons_zero, List.set_cons_succ]
  refine rgn.Walk.es ?_
  refine rgn.stepE rfl rfl (fun K hK => ?_)
  go_simp
  refine hK _ _ ((Only.refl []) _) ?_
  clear hK K
  try simp only [Act.put, List.setIfInBounds_toArray, List.set_cons_zero, List.set_cons_succ]
  refine rgn.Walk.zs (NoPanic.normal ?_)
  go_wp2_with fail
  go_ret
  exact ⟨rfl, QW.out⟩
theorem fits_iff {r : Rt} (h : r.ok) (a : Int) (b : Nat) (hb : r.bits = (b : Int)) : (pre a b * 2 ^ (32 - b) == r.net) = true ↔ Fts r a := by
  have h1 := h.nt
  unfold Fts
  rw [show r.bits.toNat = b from by omega] at h1 ⊢
  rw [beq_iff_eq]
  constructor
  · intro h2
    have := pre_mul (pre a b) b
    rw [h2] at this
    exact this.symm
  · intro h2
    rw [h2]; exact h1.symm
theorem bool_of_iff {b : Bool} {p : Prop} [Decidable p] (h : b = true ↔ p) : b = decide p := by
  by_cases hp : p
  · rw [h.2 hp]; simp [hp]
  · have : b = false := by
      cases b
      · rfl
      · exact absurd (h.1 rfl) hp
    rw [this]; simp [hp]
instance (r : Rt) (a : Int) : Decidable (Fts r a) := by unfold Fts; infer_instance
/-- Fits of a route that a table took. -/
theorem fits2 (w : World) (r : Rt) (a : Int) (h : r.ok) (ha : 0 ≤ a ∧ a ≤ 4294967295) : Calls Try.prog 17 #[.agg #[.int .u32 r.net, .int .i64 r.bits, .int .u32 r.via, .int .i64 r.met], .int .u32 a] w fun x w' => x = .returned (.bool (decide (Fts r a))) ∧ Only [] w w' := by
  obtain ⟨b, hb⟩ := Int.eq_ofNat_of_zero_le h.b0
  have hb1 := h.b1
  refine (fits1 w r a b hb (by omega) ha).mono ?_
  rintro x w' ⟨rfl, o⟩
  exact ⟨by rw [bool_of_iff (fits_iff h a b hb)], o⟩
end Go.Proofs.Ytoidpakenocllaa.rou
