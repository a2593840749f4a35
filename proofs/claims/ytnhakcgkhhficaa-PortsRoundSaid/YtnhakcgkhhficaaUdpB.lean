/-
  Chapter 11 (udp): Encode, by a walk of its text. Conditions: none but those typed.
-/
import Derived.Test.YtnhakcgkhhficaaUdpA
namespace Go.Proofs.Ytnhakcgkhhficaa.udp
set_option linter.unusedVariables false
set_option linter.unusedSimpArgs false
open Go.ChangeShapes Go.WideShapes Go.ChangeAt Go.RowKit Go.IntWalk Go.Lib
theorem port1 (w : World) (x y : Int) (h : y ≤ x) (h' : x ≤ 65535) : Calls Try.prog 34 #[.int .i64 x, .int .i64 y] w fun e w' => e = .returned (.bool true) ∧ w = w' := by
  go_enter Try.func34, Try.ntmps34
  go_wp2
  go_ret
  exact ⟨rfl, rfl⟩
theorem port0 (w : World) (x y : Int) (h : x < y ∨ 65535 < x) : Calls Try.prog 34 #[.int .i64 x, .int .i64 y] w fun e w' => e = .returned (.bool false) ∧ w = w' := by
  by_cases h1 : x < y
  · have d1 : decide (y ≤ x) = false := by simpa using h1
    go_enter Try.func34, Try.ntmps34
    go_wp2
    go_ret
    exact ⟨rfl, rfl⟩
  · have d1 : decide (y ≤ x) = true := by simpa using (by omega : y ≤ x)
    have d2 : decide (x ≤ 65535) = false := by simpa using (by omega : 65535 < x)
    clear h
    go_enter Try.func34, Try.ntmps34
    go_wp2
    go_ret
    exact ⟨rfl, rfl⟩
def Good (fp tp : Int) : Prop := (0 ≤ fp ∧ fp ≤ 65535) ∧ (0 ≤ tp ∧ tp ≤ 65535)
/-- The sum that is written, ahead of its turn at nothing. -/
def sumU (fr fp to tp : Int) (l : List Int) : Int := oct.sumF (psd.psd fr to 17 (8 + l.length : Nat) ++ body fp tp 0 l)
def fixU (s : Int) : Int := if s = 0 then 65535 else s
def encU (fr fp to tp : Int) (l : List Int) : List Int := body fp tp (fixU (sumU fr fp to tp l)) l
theorem own_cap2 {k : IntKind} {e : TypeId} {w : World} {base : Nat} {v : Value} {l : List Int} {A : Option Addr} {n cap : Nat} (h : Own k e w base v l) (ev : v = .slice A n cap) : A = none → cap = 0 := by
  intro h0
  rcases h.1.2 with ⟨hv, _⟩ | ⟨g', cap', cur, hv, _⟩
  · rw [ev] at hv; injection hv
  · rw [ev, h0] at hv; cases hv
set_option maxHeartbeats 4000000 in
theorem enc1 (w : World) (fr fp to tp : Int) (A : Option Addr) (n c : Nat) (l : List Int) (hl : Rd .u8 w A n l) (hc0 : A = none → c = 0) (hg : Good fp tp) (hn : n ≤ 65507) :
    Calls Try.prog 20 #[.agg #[.int .u32 fr, .int .i64 fp, .int .u32 to, .int .i64 tp, .slice A n c]] w fun x w' => ∃ v, x = .returned (.tuple #[v, .int .i64 0]) ∧ Own .u8 5 w' w.heap.size v (encU fr fp to tp l) ∧ Only [] w w' := by
  have HLen := hid hl.len
  have HL := hid hl; clear hl
  have HC := hid hc0; clear hc0
  obtain ⟨⟨g1, g2⟩, g3, g4⟩ := hg
  have hnn : ¬ 65507 < n := by omega
  have HSU : Hid (oct.sumF (psd.psd fr to 17 (8 + n : Nat) ++ body fp tp 0 l) = sumU fr fp to tp l) := hid (by unfold sumU; rw [HLen.out])
  have OB : Hid (Ob (w.alloc (.cells #[.int .u32 fr, .int .i64 fp, .int .u32 to, .int .i64 tp, .slice A n c] 32)) w.heap.size 32 #[.int .u32 fr, .int .i64 fp, .int .u32 to, .int .i64 tp, .slice A n c]) := hid (Ob.new _ _ _)
  have QB : Hid (Only [] w (w.alloc (.cells #[.int .u32 fr, .int .i64 fp, .int .u32 to, .int .i64 tp, .slice A n c] 32))) := hid ((Only.refl [] w).alloc _)
  go_enter Try.func20, Try.ntmps20
  have k0 := OB.out.cell 0; have k1 := OB.out.cell 1; have k2 := OB.out.cell 2; have k3 := OB.out.cell 3; have k4 := OB.out.cell 4
  go_wp2_with fail
  refine (port1 _ fp 0 g1 g2).mono ?_
  rintro x w1 ⟨rfl, hw⟩
  subst hw
  go_wp2_with fail
  refine (port1 _ tp 0 g3 g4).mono ?_
  rintro x w1 ⟨rfl, hw⟩
  subst hw
  go_wp2_with fail
  clear k0 k1 k2 k3 k4
  refine wp_region_noPanic ?_
  refine rgn.regionT (R := Only []) (by kernel_rfl) (Only.refl []) (fun _ _ _ => Only.trans) (fun _ _ _ _ _ h => h) (.y 0 (.y 1 (.y 2 (.y 3 (.y 4 (.e 5 (.e 6 (.e 7 .z)))))))) (by kernel_rfl) (fun W hWd => ?_)
  have HWd := hid hWd; clear hWd
  have OBW := hid (Ob.eq_drew OB.out HWd.out); have QW : Hid (Only [] w W) := hid (Only.eq_drew QB.out HWd.out)
  clear HWd
  refine rgn.Walk.ys (v := ?_) rfl rfl rfl ?_ ?_
  rotate_left 1
  · intro W' hW'
    go_simp
    try with_reducible rfl
  try simp only [Act.put, List.setIfInBounds_toArray, List.set_cons_zero, List.set_cons_succ]
  refine rgn.Walk.ys (v := ?_) rfl rfl rfl ?_ ?_
  rotate_left 1
  · intro W' hW'
    have q0 := (OBW.out.only hW' (by simp)).cell 0
    go_simp
    try with_reducible rfl
  try simp only [Act.put, List.setIfInBounds_toArray, List.set_cons_zero, List.set_cons_succ]
  refine rgn.Walk.ys (v := ?_) rfl rfl rfl ?_ ?_
  rotate_left 1
  · intro W' hW'
    go_simp
    try with_reducible rfl
  try simp only [Act.put, List.setIfInBounds_toArray, List.set_cons_zero, List.set_cons_succ]
  refine rgn.Walk.ys (v := ?_) rfl rfl rfl ?_ ?_
  rotate_left 1
  · intro W' hW'
    have q0 := (OBW.out.only hW' (by simp)).cell 2
    go_simp
    try with_reducible rfl
  try simp only [Act.put, List.setIfInBounds_toArray, List.set_cons_zero, List.set_cons_succ]
  refine rgn.Walk.ys rfl rfl rfl (fun W' hW' => exec_load 32 _ rfl _ rfl _ _ (OBW.out.only hW' (by simp)) Try.underlying32 rfl (by kernel_rfl)) ?_
  try simp only [Act.put, List.setIfInBounds_toArray, List.set_cons_zero, List.set_cons_succ]
  refine rgn.Walk.es ?_
  refine rgn.stepE rfl rfl (fun K hK => ?_)
  go_simp
  refine (write1 _ fr fp to tp A n c 0 l (HL.out.only_nil QW.out) HC.out (by omega)).mono ?_
  rintro x w2 ⟨v2, rfl, h2, o2⟩
  refine hK _ _ o2 ?_
  clear hK K
  try simp only [Act.put, List.setIfInBounds_toArray, List.set_cons_zero, List.set_cons_succ]
  obtain ⟨A2, cap2, ev2, _, _, r2, _⟩ := h2.slice
  have N2 := hid (own_cap2 h2 ev2)
  rw [body_len, HLen.out] at ev2 r2
  subst ev2
  have R2 := hid r2; clear r2 h2
  have OBW := hid (OBW.out.only o2 (by simp)); have QW := hid (QW.out.trans o2); clear o2
  refine rgn.Walk.es ?_
  refine rgn.stepE rfl rfl (fun K hK => ?_)
  go_simp
  refine (sums1 _ fr to A2 (8 + n) cap2 _ R2.out N2.out (by omega)).mono ?_
  rintro x w3 ⟨rfl, o3⟩
  rw [HSU.out]
  refine hK _ _ o3 ?_
  clear hK K R2 N2
  try simp only [Act.put, List.setIfInBounds_toArray, List.set_cons_zero, List.set_cons_succ]
  have OBW := hid (OBW.out.only o3 (by simp)); have QW := hid (QW.out.trans o3); clear o3
  refine rgn.Walk.es ?_
  refine rgn.stepE rfl rfl (fun K hK => ?_)
  go_simp
  refine hK _ _ ((Only.refl []) _) ?_
  clear hK K
  try simp only [Act.put, List.setIfInBounds_toArray, List.set_cons_zero, List.set_cons_succ]
  refine rgn.Walk.zs (NoPanic.normal ?_)
  have HEU : Hid (encU fr fp to tp l = body fp tp (fixU (sumU fr fp to tp l)) l) := hid rfl
  have OB := hid OBW.out; have QB := hid QW.out
  have k0 := OB.out.cell 0; have k1 := OB.out.cell 1; have k2 := OB.out.cell 2; have k3 := OB.out.cell 3; have k4 := OB.out.cell 4
  by_cases hz : sumU fr fp to tp l = 0
  · have HF : Hid (fixU (sumU fr fp to tp l) = 65535) := hid (by unfold fixU; rw [if_pos hz])
    rw [hz]
    clear hz
    go_wp2_with fail
    refine (write1 _ fr fp to tp A n c 65535 l (HL.out.only_nil QB.out) HC.out (by omega)).mono ?_
    rintro x w5 ⟨v5, rfl, h5, o5⟩
    have V5 := hid (h5.mono_base QB.out.size); have Q5 := hid (QB.out.trans o5); obtain ⟨A5, cap5, ev5, _, _, _, _⟩ := h5.slice; clear h5 o5
    subst ev5
    go_wp2
    go_ret2
    exact ⟨_, rfl, by rw [HEU.out, HF.out]; exact V5.out, Q5.out⟩
  · have HF : Hid (fixU (sumU fr fp to tp l) = sumU fr fp to tp l) := hid (by unfold fixU; rw [if_neg hz])
    have hzb : (sumU fr fp to tp l == 0) = false := by simpa using hz
    have HZ := hid hz; clear hz
    generalize sumU fr fp to tp l = s at *
    go_wp2_with fail
    refine (write1 _ fr fp to tp A n c s l (HL.out.only_nil QB.out) HC.out (by omega)).mono ?_
    rintro x w5 ⟨v5, rfl, h5, o5⟩
    have V5 := hid (h5.mono_base QB.out.size); have Q5 := hid (QB.out.trans o5); obtain ⟨A5, cap5, ev5, _, _, _, _⟩ := h5.slice; clear h5 o5
    subst ev5
    go_wp2
    go_ret2
    exact ⟨_, rfl, by rw [HEU.out, HF.out]; exact V5.out, Q5.out⟩
end Go.Proofs.Ytnhakcgkhhficaa.udp
