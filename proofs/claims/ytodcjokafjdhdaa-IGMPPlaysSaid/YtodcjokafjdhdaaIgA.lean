/-
  Chapter 10 (igmp): a later tick, a member's delay, and where a group stands, by a walk of each text. Conditions: none but those typed.
-/
import Derived.Test.YtodcjokafjdhdaaInsI
namespace Go.Proofs.Ytodcjokafjdhdaa.igm
set_option linter.unusedVariables false
set_option linter.unusedSimpArgs false
open Go.ChangeShapes Go.WideShapes Go.ChangeAt Go.RowKit Go.IntWalk Go.Lib
/-- A tick some ticks behind another one; the greatest number, if there is none. -/
def laterZ (now b : Int) : Int := if 9223372036854775807 - b < now then 9223372036854775807 else now + b
theorem later1 (w : World) (now b : Int) (hb : 0 ≤ b ∧ b ≤ 9223372036854775807) (hn : -9223372036854775808 ≤ now ∧ now ≤ 9223372036854775807) : Calls Try.prog 62 #[.int .i64 now, .int .i64 b] w fun x w' => x = .returned (.int .i64 (laterZ now b)) ∧ w = w' := by
  by_cases h : 9223372036854775807 - b < now
  · have HL : Hid (laterZ now b = 9223372036854775807) := hid (if_pos h)
    go_enter Try.func62, Try.ntmps62
    go_wp2
    go_ret
    exact ⟨by rw [HL.out]; rfl, rfl⟩
  · have HL : Hid (laterZ now b = now + b) := hid (if_neg h)
    have hw : -9223372036854775808 ≤ now + b ∧ now + b ≤ 9223372036854775807 := by omega
    go_enter Try.func62, Try.ntmps62
    go_wp2
    go_ret
    exact ⟨by rw [HL.out]; first | rfl | simp, rfl⟩
/-- How much later: draw and number are spread over so many ticks. -/
def dly (d k m : Nat) : Nat := 1 + (d % m + k % m) % m
theorem dly_le (d k m : Nat) (hm : 0 < m) : 1 ≤ dly d k m ∧ dly d k m ≤ m := by
  have := Nat.mod_lt (d % m + k % m) hm
  unfold dly; omega
def DlyE (v : Int) (w : World) (x : Ending) (w' : World) : Prop := ∃ b, x = .returned (.pointer (some ⟨b, 0, none⟩)) ∧ Ob w' b 3 #[.int .i64 v] ∧ Only [] w w' ∧ w.heap.size ≤ b
set_option maxRecDepth 100000 in
set_option maxHeartbeats 4000000 in
theorem delayed1 (w : World) (now draw most : Int) (k : Nat) (hn : -9223372036854775808 ≤ now ∧ now ≤ 9223372036854775807) (hd : draw ≤ 9223372036854775807) (hm : most ≤ 1000) (hk : k ≤ 1000) :
    Calls Try.prog 42 #[.int .i64 now, .int .i64 draw, .int .i64 (k : Int), .int .i64 most] w (DlyE (laterZ now (dly draw.toNat k (max most 1).toNat : Nat)) w) := by
  obtain ⟨m, hmm⟩ : ∃ m : Nat, (max most 1).toNat = m := ⟨_, rfl⟩
  obtain ⟨d, hdd⟩ : ∃ d : Nat, draw.toNat = d := ⟨_, rfl⟩
  have e1 : (if most < 1 then 1 else most) = (m : Int) := by split <;> omega
  have e2 : (if draw < 0 then 0 else draw) = (d : Int) := by split <;> omega
  have hm1 : 1 ≤ m := by omega
  have hm2 : m ≤ 1000 := by omega
  rw [hmm, hdd]
  have hl := dly_le d k m (by omega)
  have a1 := Nat.mod_lt d (show 0 < m by omega)
  have a2 := Nat.mod_lt k (show 0 < m by omega)
  have t1 : (d : Int).tmod (m : Int) = ((d % m : Nat) : Int) := by rw [Int.tmod_eq_emod_of_nonneg (by omega)]; exact (Int.natCast_emod d m).symm
  have t2 : (k : Int).tmod (m : Int) = ((k % m : Nat) : Int) := by rw [Int.tmod_eq_emod_of_nonneg (by omega)]; exact (Int.natCast_emod k m).symm
  obtain ⟨p, hp⟩ : ∃ p, d % m = p := ⟨_, rfl⟩
  obtain ⟨q, hq⟩ : ∃ q, k % m = q := ⟨_, rfl⟩
  rw [hp] at t1 a1; rw [hq] at t2 a2
  have t3 : ((p : Int) + (q : Int)).tmod (m : Int) = (((p + q) % m : Nat) : Int) := by rw [Int.tmod_eq_emod_of_nonneg (by omega)]; rw [Int.natCast_emod]; rfl
  have s1 : IntKind.i64.wrap ((p : Int) + (q : Int)) = (p : Int) + (q : Int) := i64_in _ (by omega)
  obtain ⟨r, hr⟩ : ∃ r, (p + q) % m = r := ⟨_, rfl⟩
  rw [hr] at t3
  have hr9 : dly d k m = 1 + r := by unfold dly; rw [hp, hq, hr]
  rw [hr9] at hl ⊢
  have s2 : IntKind.i64.wrap (1 + (r : Int)) = 1 + (r : Int) := i64_in _ (by omega)
  have e3 : (((1 + r : Nat) : Int)) = 1 + (r : Int) := by omega
  rw [e3]
  have m0 : ¬ (m : Int) = 0 := by omega
  have m00 : ¬ m = 0 := by omega
  clear hmm hdd a1 a2 hp hq hr hr9 e3
  go_enter Try.func42, Try.ntmps42
  go_wp2_with fail
  refine wp_region_noPanic ?_
  refine rgn.regionT (R := Only []) (by kernel_rfl) (Only.refl []) (fun _ _ _ => Only.trans) (fun _ _ _ _ _ h => h) (.y 0 (.y 1 (.y 2 (.y 3 (.y 4 (.y 5 (.y 6 (.y 7 (.y 8 (.y 9 (.y 10 (.e 11 .z)))))))))))) (by kernel_rfl) (fun W hWd => ?_)
  have HWd := hid hWd; clear hWd
  have QD : Hid (Only [] w W) := hid (Only.eq_drew (Only.refl [] _) HWd.out)
  clear HWd
  refine rgn.Walk.ys (v := ?_) rfl rfl rfl ?_ ?_
  rotate_left 1
  · intro W' hW'
    go_simp
    try with_reducible rfl
  try simp only [Act.put, List.setIfInBounds_toArray, List.set_cons_zero, List.set_cons_succ]
  refine rgn.Walk.ys (v := ?_) rfl rfl rfl ?_ ?_
  rotate_left 1
  · intro W' hW'
    go_simp
    try with_reducible rfl
  try simp only [Act.put, List.setIfInBounds_toArray, List.set_cons_zero, List.set_cons_succ]
  refine rgn.Walk.ys (v := ?_) rfl rfl rfl ?_ ?_
  rotate_left 1
  · intro W' hW'
    go_simp
    try with_reducible rfl
  try simp only [Act.put, List.setIfInBounds_toArray, List.set_cons_zero, List.set_cons_succ]
  refine rgn.Walk.ys (v := ?_) rfl rfl rfl ?_ ?_
  rotate_left 1
  · intro W' hW'
    have u1 := t1
    go_simp
    try with_reducible rfl
  try simp only [Act.put, List.setIfInBounds_toArray, List.set_cons_zero, List.set_cons_succ]
  refine rgn.Walk.ys (v := ?_) rfl rfl rfl ?_ ?_
  rotate_left 1
  · intro W' hW'
    go_simp
    try with_reducible rfl
  try simp only [Act.put, List.setIfInBounds_toArray, List.set_cons_zero, List.set_cons_succ]
  refine rgn.Walk.ys (v := ?_) rfl rfl rfl ?_ ?_
  rotate_left 1
  · intro W' hW'
    go_simp
    try with_reducible rfl
  try simp only [Act.put, List.setIfInBounds_toArray, List.set_cons_zero, List.set_cons_succ]
  refine rgn.Walk.ys (v := ?_) rfl rfl rfl ?_ ?_
  rotate_left 1
  · intro W' hW'
    have u2 := t2
    go_simp
    try with_reducible rfl
  try simp only [Act.put, List.setIfInBounds_toArray, List.set_cons_zero, List.set_cons_succ]
  refine rgn.Walk.ys (v := ?_) rfl rfl rfl ?_ ?_
  rotate_left 1
  · intro W' hW'
    go_simp
    try rw [s1]
    try with_reducible rfl
  try simp only [Act.put, List.setIfInBounds_toArray, List.set_cons_zero, List.set_cons_succ]
  refine rgn.Walk.ys (v := ?_) rfl rfl rfl ?_ ?_
  rotate_left 1
  · intro W' hW'
    go_simp
    try with_reducible rfl
  try simp only [Act.put, List.setIfInBounds_toArray, List.set_cons_zero, List.set_cons_succ]
  refine rgn.Walk.ys (v := ?_) rfl rfl rfl ?_ ?_
  rotate_left 1
  · intro W' hW'
    have u3 := t3
    go_simp
    try with_reducible rfl
  try simp only [Act.put, List.setIfInBounds_toArray, List.set_cons_zero, List.set_cons_succ]
  refine rgn.Walk.ys (v := ?_) rfl rfl rfl ?_ ?_
  rotate_left 1
  · intro W' hW'
    go_simp
    try rw [s2]
    try with_reducible rfl
  try simp only [Act.put, List.setIfInBounds_toArray, List.set_cons_zero, List.set_cons_succ]
  refine rgn.Walk.es ?_
  refine rgn.stepE rfl rfl (fun K hK => ?_)
  go_simp
  refine hK _ _ ((Only.refl []) _) ?_
  clear hK K
  try simp only [Act.put, List.setIfInBounds_toArray, List.set_cons_zero, List.set_cons_succ]
  refine rgn.Walk.zs (NoPanic.normal ?_)
  go_wp2_with fail
  refine (later1 W now (1 + (r : Int)) (by omega) hn).mono ?_
  rintro x w1 ⟨rfl, hw1⟩
  subst hw1
  obtain ⟨W3, hW3⟩ : ∃ W3, W.alloc (.cells #[.int .i64 (laterZ now (1 + (r : Int)))] 3) = W3 := ⟨_, rfl⟩
  have O3 : Hid (Ob W3 W.heap.size 3 #[.int .i64 (laterZ now (1 + (r : Int)))]) := hid (by rw [← hW3]; exact Ob.new _ _ _)
  have Q3 : Hid (Only [] w W3) := hid (by rw [← hW3]; exact QD.out.alloc _)
  go_wp2_with fail
  go_ret
  exact ⟨_, rfl, O3.out, Q3.out, QD.out.size⟩
theorem find1 (w : World) (g : Nat) (A : Option Addr) (M : List Mb) (n c : Nat) (t : Int) (ho : Ob w g 46 #[.slice A n c]) (hr : RdS w A n 3 (rws Mb.enc M)) (hn : M.length = n) (hL : Rise M) (hb : n ≤ 100000) :
    Calls Try.prog 40 #[.pointer (some ⟨g, 0, none⟩), .int .u32 t] w (BsE M t w) := by
  have k0 := ho.cell 0
  have HR := hid hr; have HN := hid hn; have HL := hid hL
  clear ho hr hn hL
  go_enter Try.func40, Try.ntmps40
  go_wp2_with fail
  clear k0
  refine (bsf1 w A M n c t HR.out HN.out HL.out (by omega)).mono ?_
  rintro x w1 ⟨rfl, o1⟩
  have O1 := hid o1; clear o1
  go_wp2_with fail
  go_ret2
  exact ⟨rfl, O1.out⟩
end Go.Proofs.Ytodcjokafjdhdaa.igm
