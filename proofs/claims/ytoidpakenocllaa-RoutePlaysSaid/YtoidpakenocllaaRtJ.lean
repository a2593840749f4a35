/-
  Chapter 8 (route): the law RouteOrder, by a walk of its text. Conditions: none but those typed.
-/
import Derived.Test.YtoidpakenocllaaRtI
namespace Go.Proofs.Ytoidpakenocllaa.rou
set_option linter.unusedVariables false
set_option linter.unusedSimpArgs false
open Go.ChangeShapes Go.WideShapes Go.ChangeAt Go.RowKit Go.IntWalk Go.Lib
instance (r : Rt) : Decidable (Vld r) := by unfold Vld; infer_instance
/-- The routes of an argument. -/
def gr (V0 V1 V2 V3 : Nat → Int) (i : Nat) : Rt := ⟨V0 i, V1 i, V2 i, V3 i⟩
def grs (V0 V1 V2 V3 : Nat → Int) (n : Nat) : List Rt := (List.range n).map (gr V0 V1 V2 V3)
/-- Those that a table takes. -/
def vs (L : List Rt) : List Rt := L.filter fun r => decide (Vld r)
theorem vs_app (L K : List Rt) : vs (L ++ K) = vs L ++ vs K := by simp [vs]
theorem vs_step {D D' M : List Rt} {r : Rt} {e : Int} (h : AddR D r e D') (hp : D.Perm (vs M)) (hk : ∀ y ∈ M, ¬ Key y r) (hl : M.length < 64) : D'.Perm (vs (M ++ [r])) := by
  have hsub : ∀ y ∈ D, y ∈ M := fun y hy => (List.mem_filter.1 (hp.mem_iff.1 hy)).1
  rw [vs_app]
  rcases h with ⟨h1, h2, h3⟩ | ⟨h1, h2, ⟨y, hy, hky⟩, h3⟩ | ⟨h1, h2, h4, h5, h3⟩ | ⟨h1, h2, h4, h5, h6, h7⟩
  · rw [h3, show vs [r] = [] from by simp [vs, h2], List.append_nil]; exact hp
  · exact absurd hky (hk y (hsub y hy))
  · have : D.length ≤ M.length := by rw [hp.length_eq]; exact List.length_filter_le _ _
    omega
  · rw [show vs [r] = [r] from by simp [vs, h2]]
    exact h6.trans ((hp.cons r).trans (List.perm_append_singleton r (vs M)).symm)
theorem grs_succ (V0 V1 V2 V3 : Nat → Int) (n : Nat) : grs V0 V1 V2 V3 (n + 1) = grs V0 V1 V2 V3 n ++ [gr V0 V1 V2 V3 n] := by simp [grs, List.range_succ]
/-- The last ones, the last one first. -/
def bck (V0 V1 V2 V3 : Nat → Int) (len n : Nat) : List Rt := (List.range n).map fun i => gr V0 V1 V2 V3 (len - 1 - i)
theorem bck_succ (V0 V1 V2 V3 : Nat → Int) (len n : Nat) : bck V0 V1 V2 V3 len (n + 1) = bck V0 V1 V2 V3 len n ++ [gr V0 V1 V2 V3 (len - 1 - n)] := by simp [bck, List.range_succ]
theorem bck_all (V0 V1 V2 V3 : Nat → Int) (len : Nat) : (bck V0 V1 V2 V3 len len).Perm (grs V0 V1 V2 V3 len) := by
  have : bck V0 V1 V2 V3 len len = (grs V0 V1 V2 V3 len).reverse := by
    unfold bck grs
    apply List.ext_getElem
    · simp
    · intro i h1 h2
      simp at h1
      simp [List.getElem_reverse]
  rw [this]; exact List.reverse_perm _
/-- Two Tables that lie apart. -/
structure TU (w : World) (B g1 g2 : Nat) (t u : Tr) (D E : List Rt) : Prop where
  T : TV w B g1 t D
  U : TV w B g2 u E
  ne : g1 ≠ g2
  d1 : g2 ∉ t.bks
  d2 : g1 ∉ u.bks
  dis : ∀ k ∈ t.bks, k ∉ u.bks
theorem TU.symm {w : World} {B g1 g2 : Nat} {t u : Tr} {D E : List Rt} (h : TU w B g1 g2 t u D E) : TU w B g2 g1 u t E D := ⟨h.U, h.T, h.ne.symm, h.d2, h.d1, fun k hk hm => h.dis k hm hk⟩
theorem TU.left {w w' : World} {B g1 g2 : Nat} {t t' u : Tr} {D D' E : List Rt} (h : TU w B g1 g2 t u D E) (s : TStep w B g1 t w' t' D') : TU w' B g1 g2 t' u D' E := by
  have hlt := h.U.ob.lt
  refine ⟨s.tv, h.U.only s.only (fun hm => ?_) (fun k hk hm => ?_), h.ne, fun hm => ?_, h.d2, fun k hk hm => ?_⟩
  · rcases List.mem_cons.1 hm with h1 | h1
    · exact h.ne h1.symm
    · exact h.d1 h1
  · rcases List.mem_cons.1 hm with h1 | h1
    · exact h.d2 (h1 ▸ hk)
    · exact h.dis k h1 hk
  · rcases s.bk _ hm with h1 | h1
    · exact h.d1 h1
    · omega
  · rcases s.bk k hk with h1 | h1
    · exact h.dis k h1 hm
    · have := (Tr.okm_lt h.U.okm k hm).2; omega
theorem TU.nil {w w' : World} {B g1 g2 : Nat} {t u : Tr} {D E : List Rt} (h : TU w B g1 g2 t u D E) (o : Only [] w w') : TU w' B g1 g2 t u D E := ⟨h.T.nil o, h.U.nil o, h.ne, h.d1, h.d2, h.dis⟩
/-- What the law has built when n routes were added to each. -/
def Ord (w0 wr : World) (B g1 g2 : Nat) (V0 V1 V2 V3 : Nat → Int) (len n : Nat) : Prop := ∃ t u D E, TU wr B g1 g2 t u D E ∧ D.Perm (vs (grs V0 V1 V2 V3 n)) ∧ E.Perm (vs (bck V0 V1 V2 V3 len n))
set_option maxRecDepth 100000 in
set_option maxHeartbeats 8000000 in
theorem order (w : World) (A : Option Addr) (len c : Nat) (V0 V1 V2 V3 : Nat → Int) (h : OplRt w A len V0 V1 V2 V3) : Calls Try.prog 6 #[.slice A len c] w (fun e w' => e = .returned (.bool true) ∧ Only [] w w') := by
  have HA := hid h; clear h
  by_cases h64 : 64 < len
  · have Q : Hid (Only [] w w) := hid (Only.refl _ _)
    go_enter Try.func6, Try.ntmps6
    go_wp2_with fail
    refine (known1 w).mono ?_
    rintro x w1 ⟨rfl, o1⟩
    replace Q := hid (Q.out.trans o1); clear o1
    go_wp2_with fail
    go_ret
    exact ⟨rfl, Q.out⟩
  · go_enter Try.func6, Try.ntmps6
    go_wp2_with fail
    go_loopw [3, 4] (fun i _ wr => ∃ (k : Nat), i = .int .i64 k ∧ k ≤ len ∧ Hid (∀ a, a < k → ∀ b, b < a → ¬ Key (gr V0 V1 V2 V3 a) (gr V0 V1 V2 V3 b)) ∧ Hid (Only [] w wr)) (fun i _ _ => len - (RowKit.intOf i).toNat)
    case atStart => exact ⟨0, rfl, by omega, hid (fun a h => absurd h (by omega)), hid (Only.refl _ _)⟩
    case round =>
      obtain ⟨i, rfl, hi, HK, Q⟩ := hrel
      by_cases hlt : i < len
      · obtain ⟨wi, hwi⟩ : ∃ wi, wi = wr := ⟨_, rfl⟩
        subst hwi
        go_wp2_with fail
        go_loopw [4] (fun k wr => ∃ (j : Nat), k = .int .i64 j ∧ j ≤ i ∧ Hid (∀ b, b < j → ¬ Key (gr V0 V1 V2 V3 i) (gr V0 V1 V2 V3 b)) ∧ Hid (Only [] w wr)) (fun k _ => i - (RowKit.intOf k).toNat)
        case atStart => exact ⟨0, rfl, by omega, hid (fun b h => absurd h (by omega)), Q⟩
        case round =>
          clear Q
          obtain ⟨j, rfl, hj, HJ, Q⟩ := hrel
          by_cases hji : j < i
          · obtain ⟨b, off, rfl, hb, hc⟩ := (HA.out.only_nil Q.out).cells (by omega)
            have hjl : j < len := by omega
            obtain ⟨p0, p1, p2, p3⟩ := hc i hlt
            obtain ⟨q0, q1, q2, q3⟩ := hc j hjl
            have HP0 := hid p0; have HP1 := hid p1; have HP3 := hid p3; have HQ0 := hid q0; have HQ1 := hid q1; have HQ3 := hid q3
            clear hc p0 p1 p2 p3 q0 q1 q2 q3
            have HKK : Hid (Key (gr V0 V1 V2 V3 i) (gr V0 V1 V2 V3 j) ↔ V0 i = V0 j ∧ V1 i = V1 j ∧ V3 i = V3 j) := hid Iff.rfl
            generalize V0 i = x0 at HP0 HKK; generalize V1 i = x1 at HP1 HKK; generalize V3 i = x3 at HP3 HKK
            generalize V0 j = y0 at HQ0 HKK; generalize V1 j = y1 at HQ1 HKK; generalize V3 j = y3 at HQ3 HKK
            by_cases h0 : x0 = y0
            · by_cases h1 : x1 = y1
              · by_cases h3 : x3 = y3
                · have z0 : (x0 == y0) = true := by simpa using h0
                  have z1 : (x1 == y1) = true := by simpa using h1
                  have z3 : (x3 == y3) = true := by simpa using h3
                  go_wp2_with fail
                  refine wp_region_noPanic ?_
                  refine rgn.regionT (R := Only []) (by kernel_rfl) (Only.refl []) (fun _ _ _ => Only.trans) (fun _ _ _ _ _ h => h) (.y 0 (.y 1 (.y 2 (.y 3 (.y 4 (.y 5 (.y 6 (.y 7 (.y 8 (.y 9 (.y 10 (.y 11 (.y 12 (.y 13 (.y 14 (.y 15 (.y 16 (.y 17 (.y 18 (.y 19 (.y 20 (.y 21 (.y 22 (.y 23 (.y 24 (.y 25 (.y 26 (.y 27 (.y 28 (.y 29 (.y 30 (.y 31 (.y 32 (.y 33 (.y 34 (.y 35 (.y 36 .z))))))))))))))))))))))))))))))))))))) (by kernel_rfl) (fun W hWd => ?_)
                  have HWd := hid hWd; clear hWd
                  have q8 : Only [] wr W := Only.eq_drew (Only.refl [] _) HWd.out
                  have QW := hid q8; have QQ := hid (Q.out.trans q8)
                  clear q8 HWd
                  refine rgn.Walk.ys (v := ?_) rfl rfl rfl ?_ ?_
                  rotate_left 1
                  · intro W' hW'
                    go_simp
                    try with_reducible rfl
                  try simp only [Act.put, List.setIfInBounds_toArray, List.set_cons_zero, List.set_cons_succ]
                  refine rgn.Walk.ys (v := ?_) rfl rfl rfl ?_ ?_
                  rotate_left 1
                  · intro W' hW'
                    go_simp
                    try with_reducible rfl
                  try simp only [Act.put, List.setIfInBounds_toArray, List.set_cons_zero, List.set_cons_succ]
                  refine rgn.Walk.ys (v := ?_) rfl rfl rfl ?_ ?_
                  rotate_left 1
                  · intro W' hW'
                    go_simp
                    try with_reducible rfl
                  try simp only [Act.put, List.setIfInBounds_toArray, List.set_cons_zero, List.set_cons_succ]
                  refine rgn.Walk.ys (v := ?_) rfl rfl rfl ?_ ?_
                  rotate_left 1
                  · intro W' hW'
                    go_simp
                    try with_reducible rfl
                  try simp only [Act.put, List.setIfInBounds_toArray, List.set_cons_zero, List.set_cons_succ]
                  refine rgn.Walk.ys (v := ?_) rfl rfl rfl ?_ ?_
                  rotate_left 1
                  · intro W' hW'
                    have q0 := (QW.out.trans hW').keep HP0.out
                    go_simp
                    try with_reducible rfl
                  try simp only [Act.put, List.setIfInBounds_toArray, List.set_cons_zero, List.set_cons_succ]
                  refine rgn.Walk.ys (v := ?_) rfl rfl rfl ?_ ?_
                  rotate_left 1
                  · intro W' hW'
                    go_simp
                    try with_reducible rfl
                  try simp only [Act.put, List.setIfInBounds_toArray, List.set_cons_zero, List.set_cons_succ]
                  refine rgn.Walk.ys (v := ?_) rfl rfl rfl ?_ ?_
                  rotate_left 1
                  · intro W' hW'
                    go_simp
                    try with_reducible rfl
                  try simp only [Act.put, List.setIfInBounds_toArray, List.set_cons_zero, List.set_cons_succ]
                  refine rgn.Walk.ys (v := ?_) rfl rfl rfl ?_ ?_
                  rotate_left 1
                  · intro W' hW'
                    go_simp
                    try with_reducible rfl
                  try simp only [Act.put, List.setIfInBounds_toArray, List.set_cons_zero, List.set_cons_succ]
                  refine rgn.Walk.ys (v := ?_) rfl rfl rfl ?_ ?_
                  rotate_left 1
                  · intro W' hW'
                    go_simp
                    try with_reducible rfl
                  try simp only [Act.put, List.setIfInBounds_toArray, List.set_cons_zero, List.set_cons_succ]
                  refine rgn.Walk.ys (v := ?_) rfl rfl rfl ?_ ?_
                  rotate_left 1
                  · intro W' hW'
                    have q0 := (QW.out.trans hW').keep HQ0.out
                    go_simp
                    try with_reducible rfl
                  try simp only [Act.put, List.setIfInBounds_toArray, List.set_cons_zero, List.set_cons_succ]
                  refine rgn.Walk.ys (v := ?_) rfl rfl rfl ?_ ?_
                  rotate_left 1
                  · intro W' hW'
                    go_simp
                    try with_reducible rfl
                  try simp only [Act.put, List.setIfInBounds_toArray, List.set_cons_zero, List.set_cons_succ]
                  refine rgn.Walk.ys (v := ?_) rfl rfl rfl ?_ ?_
                  rotate_left 1
                  · intro W' hW'
                    go_simp
                    try with_reducible rfl
                  try simp only [Act.put, List.setIfInBounds_toArray, List.set_cons_zero, List.set_cons_succ]
                  refine rgn.Walk.ys (v := ?_) rfl rfl rfl ?_ ?_
                  rotate_left 1
                  · intro W' hW'
                    go_simp
                    try with_reducible rfl
                  try simp only [Act.put, List.setIfInBounds_toArray, List.set_cons_zero, List.set_cons_succ]
                  refine rgn.Walk.ys (v := ?_) rfl rfl rfl ?_ ?_
                  rotate_left 1
                  · intro W' hW'
                    go_simp
                    try with_reducible rfl
                  try simp only [Act.put, List.setIfInBounds_toArray, List.set_cons_zero, List.set_cons_succ]
                  refine rgn.Walk.ys (v := ?_) rfl rfl rfl ?_ ?_
                  rotate_left 1
                  · intro W' hW'
                    go_simp
                    try with_reducible rfl
                  try simp only [Act.put, List.setIfInBounds_toArray, List.set_cons_zero, List.set_cons_succ]
                  refine rgn.Walk.ys (v := ?_) rfl rfl rfl ?_ ?_
                  rotate_left 1
                  · intro W' hW'
                    go_simp
                    try with_reducible rfl
                  try simp only [Act.put, List.setIfInBounds_toArray, List.set_cons_zero, List.set_cons_succ]
                  refine rgn.Walk.ys (v := ?_) rfl rfl rfl ?_ ?_
                  rotate_left 1
                  · intro W' hW'
                    have q0 := (QW.out.trans hW').keep HP1.out
                    go_simp
                    try with_reducible rfl
                  try simp only [Act.put, List.setIfInBounds_toArray, List.set_cons_zero, List.set_cons_succ]
                  refine rgn.Walk.ys (v := ?_) rfl rfl rfl ?_ ?_
                  rotate_left 1
                  · intro W' hW'
                    go_simp
                    try with_reducible rfl
                  try simp only [Act.put, List.setIfInBounds_toArray, List.set_cons_zero, List.set_cons_succ]
                  refine rgn.Walk.ys (v := ?_) rfl rfl rfl ?_ ?_
                  rotate_left 1
                  · intro W' hW'
                    go_simp
                    try with_reducible rfl
                  try simp only [Act.put, List.setIfInBounds_toArray, List.set_cons_zero, List.set_cons_succ]
                  refine rgn.Walk.ys (v := ?_) rfl rfl rfl ?_ ?_
                  rotate_left 1
                  · intro W' hW'
                    go_simp
                    try with_reducible rfl
                  try simp only [Act.put, List.setIfInBounds_toArray, List.set_cons_zero, List.set_cons_succ]
                  refine rgn.Walk.ys (v := ?_) rfl rfl rfl ?_ ?_
                  rotate_left 1
                  · intro W' hW'
                    go_simp
                    try with_reducible rfl
                  try simp only [Act.put, List.setIfInBounds_toArray, List.set_cons_zero, List.set_cons_succ]
                  refine rgn.Walk.ys (v := ?_) rfl rfl rfl ?_ ?_
                  rotate_left 1
                  · intro W' hW'
                    have q0 := (QW.out.trans hW').keep HQ1.out
                    go_simp
                    try with_reducible rfl
                  try simp only [Act.put, List.setIfInBounds_toArray, List.set_cons_zero, List.set_cons_succ]
                  refine rgn.Walk.ys (v := ?_) rfl rfl rfl ?_ ?_
                  rotate_left 1
                  · intro W' hW'
                    go_simp
                    try with_reducible rfl
                  try simp only [Act.put, List.setIfInBounds_toArray, List.set_cons_zero, List.set_cons_succ]
                  refine rgn.Walk.ys (v := ?_) rfl rfl rfl ?_ ?_
                  rotate_left 1
                  · intro W' hW'
                    go_simp
                    try with_reducible rfl
                  try simp only [Act.put, List.setIfInBounds_toArray, List.set_cons_zero, List.set_cons_succ]
                  refine rgn.Walk.ys (v := ?_) rfl rfl rfl ?_ ?_
                  rotate_left 1
                  · intro W' hW'
                    go_simp
                    try with_reducible rfl
                  try simp only [Act.put, List.setIfInBounds_toArray, List.set_cons_zero, List.set_cons_succ]
                  refine rgn.Walk.ys (v := ?_) rfl rfl rfl ?_ ?_
                  rotate_left 1
                  · intro W' hW'
                    go_simp
                    try with_reducible rfl
                  try simp only [Act.put, List.setIfInBounds_toArray, List.set_cons_zero, List.set_cons_succ]
                  refine rgn.Walk.ys (v := ?_) rfl rfl rfl ?_ ?_
                  rotate_left 1
                  · intro W' hW'
                    go_simp
                    try with_reducible rfl
                  try simp only [Act.put, List.setIfInBounds_toArray, List.set_cons_zero, List.set_cons_succ]
                  refine rgn.Walk.ys (v := ?_) rfl rfl rfl ?_ ?_
                  rotate_left 1
                  · intro W' hW'
                    go_simp
                    try with_reducible rfl
                  try simp only [Act.put, List.setIfInBounds_toArray, List.set_cons_zero, List.set_cons_succ]
                  refine rgn.Walk.ys (v := ?_) rfl rfl rfl ?_ ?_
                  rotate_left 1
                  · intro W' hW'
                    go_simp
                    try with_reducible rfl
                  try simp only [Act.put, List.setIfInBounds_toArray, List.set_cons_zero, List.set_cons_succ]
                  refine rgn.Walk.ys (v := ?_) rfl rfl rfl ?_ ?_
                  rotate_left 1
                  · intro W' hW'
                    have q0 := (QW.out.trans hW').keep HP3.out
                    go_simp
                    try with_reducible rfl
                  try simp only [Act.put, List.setIfInBounds_toArray, List.set_cons_zero, List.set_cons_succ]
                  refine rgn.Walk.ys (v := ?_) rfl rfl rfl ?_ ?_
                  rotate_left 1
                  · intro W' hW'
                    go_simp
                    try with_reducible rfl
                  try simp only [Act.put, List.setIfInBounds_toArray, List.set_cons_zero, List.set_cons_succ]
                  refine rgn.Walk.ys (v := ?_) rfl rfl rfl ?_ ?_
                  rotate_left 1
                  · intro W' hW'
                    go_simp
                    try with_reducible rfl
                  try simp only [Act.put, List.setIfInBounds_toArray, List.set_cons_zero, List.set_cons_succ]
                  refine rgn.Walk.ys (v := ?_) rfl rfl rfl ?_ ?_
                  rotate_left 1
                  · intro W' hW'
                    go_simp
                    try with_reducible rfl
                  try simp only [Act.put, List.setIfInBounds_toArray, List.set_cons_zero, List.set_cons_succ]
                  refine rgn.Walk.ys (v := ?_) rfl rfl rfl ?_ ?_
                  rotate_left 1
                  · intro W' hW'
                    go_simp
                    try with_reducible rfl
                  try simp only [Act.put, List.setIfInBounds_toArray, List.set_cons_zero, List.set_cons_succ]
                  refine rgn.Walk.ys (v := ?_) rfl rfl rfl ?_ ?_
                  rotate_left 1
                  · intro W' hW'
                    have q0 := (QW.out.trans hW').keep HQ3.out
                    go_simp
                    try with_reducible rfl
                  try simp only [Act.put, List.setIfInBounds_toArray, List.set_cons_zero, List.set_cons_succ]
                  refine rgn.Walk.ys (v := ?_) rfl rfl rfl ?_ ?_
                  rotate_left 1
                  · intro W' hW'
                    go_simp
                    try with_reducible rfl
                  try simp only [Act.put, List.setIfInBounds_toArray, List.set_cons_zero, List.set_cons_succ]
                  refine rgn.Walk.ys (v := ?_) rfl rfl rfl ?_ ?_
                  rotate_left 1
                  · intro W' hW'
                    go_simp
                    try with_reducible rfl
                  try simp only [Act.put, List.setIfInBounds_toArray, List.set_cons_zero, List.set_cons_succ]
                  refine rgn.Walk.zs (NoPanic.normal ?_)
                  replace Q := QQ
                  go_wp2_with fail
                  refine (known1 W).mono ?_
                  rintro x w1 ⟨rfl, o1⟩
                  replace Q := hid (Q.out.trans o1); clear o1
                  go_wp2_with fail
                  go_ret
                  exact ⟨rfl, Q.out⟩
                · have z0 : (x0 == y0) = true := by simpa using h0
                  have z1 : (x1 == y1) = true := by simpa using h1
                  have z3 : (x3 == y3) = false := by simpa using h3
                  go_wp2_with fail
                  refine wp_region_noPanic ?_
                  refine rgn.regionT (R := Only []) (by kernel_rfl) (Only.refl []) (fun _ _ _ => Only.trans) (fun _ _ _ _ _ h => h) (.y 0 (.y 1 (.y 2 (.y 3 (.y 4 (.y 5 (.y 6 (.y 7 (.y 8 (.y 9 (.y 10 (.y 11 (.y 12 (.y 13 (.y 14 (.y 15 (.y 16 (.y 17 (.y 18 (.y 19 (.y 20 (.y 21 (.y 22 (.y 23 (.y 24 (.y 25 (.y 26 (.y 27 (.y 28 (.y 29 (.y 30 (.y 31 (.y 32 (.y 33 (.y 34 (.y 35 (.y 36 .z))))))))))))))))))))))))))))))))))))) (by kernel_rfl) (fun W hWd => ?_)
                  have HWd := hid hWd; clear hWd
                  have q8 : Only [] wr W := Only.eq_drew (Only.refl [] _) HWd.out
                  have QW := hid q8; have QQ := hid (Q.out.trans q8)
                  clear q8 HWd
                  refine rgn.Walk.ys (v := ?_) rfl rfl rfl ?_ ?_
                  rotate_left 1
                  · intro W' hW'
                    go_simp
                    try with_reducible rfl
                  try simp only [Act.put, List.setIfInBounds_toArray, List.set_cons_zero, List.set_cons_succ]
                  refine rgn.Walk.ys (v := ?_) rfl rfl rfl ?_ ?_
                  rotate_left 1
                  · intro W' hW'
                    go_simp
                    try with_reducible rfl
                  try simp only [Act.put, List.setIfInBounds_toArray, List.set_cons_zero, List.set_cons_succ]
                  refine rgn.Walk.ys (v := ?_) rfl rfl rfl ?_ ?_
                  rotate_left 1
                  · intro W' hW'
                    go_simp
                    try with_reducible rfl
                  try simp only [Act.put, List.setIfInBounds_toArray, List.set_cons_zero, List.set_cons_succ]
                  refine rgn.Walk.ys (v := ?_) rfl rfl rfl ?_ ?_
                  rotate_left 1
                  · intro W' hW'
                    go_simp
                    try with_reducible rfl
                  try simp only [Act.put, List.setIfInBounds_toArray, List.set_cons_zero, List.set_cons_succ]
                  refine rgn.Walk.ys (v := ?_) rfl rfl rfl ?_ ?_
                  rotate_left 1
                  · intro W' hW'
                    have q0 := (QW.out.trans hW').keep HP0.out
                    go_simp
                    try with_reducible rfl
                  try simp only [Act.put, List.setIfInBounds_toArray, List.set_cons_zero, List.set_cons_succ]
                  refine rgn.Walk.ys (v := ?_) rfl rfl rfl ?_ ?_
                  rotate_left 1
                  · intro W' hW'
                    go_simp
                    try with_reducible rfl
                  try simp only [Act.put, List.setIfInBounds_toArray, List.set_cons_zero, List.set_cons_succ]
                  refine rgn.Walk.ys (v := ?_) rfl rfl rfl ?_ ?_
                  rotate_left 1
                  · intro W' hW'
                    go_simp
                    try with_reducible rfl
                  try simp only [Act.put, List.setIfInBounds_toArray, List.set_cons_zero, List.set_cons_succ]
                  refine rgn.Walk.ys (v := ?_) rfl rfl rfl ?_ ?_
                  rotate_left 1
                  · intro W' hW'
                    go_simp
                    try with_reducible rfl
                  try simp only [Act.put, List.setIfInBounds_toArray, List.set_cons_zero, List.set_cons_succ]
                  refine rgn.Walk.ys (v := ?_) rfl rfl rfl ?_ ?_
                  rotate_left 1
                  · intro W' hW'
                    go_simp
                    try with_reducible rfl
                  try simp only [Act.put, List.setIfInBounds_toArray, List.set_cons_zero, List.set_cons_succ]
                  refine rgn.Walk.ys (v := ?_) rfl rfl rfl ?_ ?_
                  rotate_left 1
                  · intro W' hW'
                    have q0 := (QW.out.trans hW').keep HQ0.out
                    go_simp
                    try with_reducible rfl
                  try simp only [Act.put, List.setIfInBounds_toArray, List.set_cons_zero, List.set_cons_succ]
                  refine rgn.Walk.ys (v := ?_) rfl rfl rfl ?_ ?_
                  rotate_left 1
                  · intro W' hW'
                    go_simp
                    try with_reducible rfl
                  try simp only [Act.put, List.setIfInBounds_toArray, List.set_cons_zero, List.set_cons_succ]
                  refine rgn.Walk.ys (v := ?_) rfl rfl rfl ?_ ?_
                  rotate_left 1
                  · intro W' hW'
                    go_simp
                    try with_reducible rfl
                  try simp only [Act.put, List.setIfInBounds_toArray, List.set_cons_zero, List.set_cons_succ]
                  refine rgn.Walk.ys (v := ?_) rfl rfl rfl ?_ ?_
                  rotate_left 1
                  · intro W' hW'
                    go_simp
                    try with_reducible rfl
                  try simp only [Act.put, List.setIfInBounds_toArray, List.set_cons_zero, List.set_cons_succ]
                  refine rgn.Walk.ys (v := ?_) rfl rfl rfl ?_ ?_
                  rotate_left 1
                  · intro W' hW'
                    go_simp
                    try with_reducible rfl
                  try simp only [Act.put, List.setIfInBounds_toArray, List.set_cons_zero, List.set_cons_succ]
                  refine rgn.Walk.ys (v := ?_) rfl rfl rfl ?_ ?_
                  rotate_left 1
                  · intro W' hW'
                    go_simp
                    try with_reducible rfl
                  try simp only [Act.put, List.setIfInBounds_toArray, List.set_cons_zero, List.set_cons_succ]
                  refine rgn.Walk.ys (v := ?_) rfl rfl rfl ?_ ?_
                  rotate_left 1
                  · intro W' hW'
                    go_simp
                    try with_reducible rfl
                  try simp only [Act.put, List.setIfInBounds_toArray, List.set_cons_zero, List.set_cons_succ]
                  refine rgn.Walk.ys (v := ?_) rfl rfl rfl ?_ ?_
                  rotate_left 1
                  · intro W' hW'
                    have q0 := (QW.out.trans hW').keep HP1.out
                    go_simp
                    try with_reducible rfl
                  try simp only [Act.put, List.setIfInBounds_toArray, List.set_cons_zero, List.set_cons_succ]
                  refine rgn.Walk.ys (v := ?_) rfl rfl rfl ?_ ?_
                  rotate_left 1
                  · intro W' hW'
                    go_simp
                    try with_reducible rfl
                  try simp only [Act.put, List.setIfInBounds_toArray, List.set_cons_zero, List.set_cons_succ]
                  refine rgn.Walk.ys (v := ?_) rfl rfl rfl ?_ ?_
                  rotate_left 1
                  · intro W' hW'
                    go_simp
                    try with_reducible rfl
                  try simp only [Act.put, List.setIfInBounds_toArray, List.set_cons_zero, List.set_cons_succ]
                  refine rgn.Walk.ys (v := ?_) rfl rfl rfl ?_ ?_
                  rotate_left 1
                  · intro W' hW'
                    go_simp
                    try with_reducible rfl
                  try simp only [Act.put, List.setIfInBounds_toArray, List.set_cons_zero, List.set_cons_succ]
                  refine rgn.Walk.ys (v := ?_) rfl rfl rfl ?_ ?_
                  rotate_left 1
                  · intro W' hW'
                    go_simp
                    try with_reducible rfl
                  try simp only [Act.put, List.setIfInBounds_toArray, List.set_cons_zero, List.set_cons_succ]
                  refine rgn.Walk.ys (v := ?_) rfl rfl rfl ?_ ?_
                  rotate_left 1
                  · intro W' hW'
                    have q0 := (QW.out.trans hW').keep HQ1.out
                    go_simp
                    try with_reducible rfl
                  try simp only [Act.put, List.setIfInBounds_toArray, List.set_cons_zero, List.set_cons_succ]
                  refine rgn.Walk.ys (v := ?_) rfl rfl rfl ?_ ?_
                  rotate_left 1
                  · intro W' hW'
                    go_simp
                    try with_reducible rfl
                  try simp only [Act.put, List.setIfInBounds_toArray, List.set_cons_zero, List.set_cons_succ]
                  refine rgn.Walk.ys (v := ?_) rfl rfl rfl ?_ ?_
                  rotate_left 1
                  · intro W' hW'
                    go_simp
                    try with_reducible rfl
                  try simp only [Act.put, List.setIfInBounds_toArray, List.set_cons_zero, List.set_cons_succ]
                  refine rgn.Walk.ys (v := ?_) rfl rfl rfl ?_ ?_
                  rotate_left 1
                  · intro W' hW'
                    go_simp
                    try with_reducible rfl
                  try simp only [Act.put, List.setIfInBounds_toArray, List.set_cons_zero, List.set_cons_succ]
                  refine rgn.Walk.ys (v := ?_) rfl rfl rfl ?_ ?_
                  rotate_left 1
                  · intro W' hW'
                    go_simp
                    try with_reducible rfl
                  try simp only [Act.put, List.setIfInBounds_toArray, List.set_cons_zero, List.set_cons_succ]
                  refine rgn.Walk.ys (v := ?_) rfl rfl rfl ?_ ?_
                  rotate_left 1
                  · intro W' hW'
                    go_simp
                    try with_reducible rfl
                  try simp only [Act.put, List.setIfInBounds_toArray, List.set_cons_zero, List.set_cons_succ]
                  refine rgn.Walk.ys (v := ?_) rfl rfl rfl ?_ ?_
                  rotate_left 1
                  · intro W' hW'
                    go_simp
                    try with_reducible rfl
                  try simp only [Act.put, List.setIfInBounds_toArray, List.set_cons_zero, List.set_cons_succ]
                  refine rgn.Walk.ys (v := ?_) rfl rfl rfl ?_ ?_
                  rotate_left 1
                  · intro W' hW'
                    go_simp
                    try with_reducible rfl
                  try simp only [Act.put, List.setIfInBounds_toArray, List.set_cons_zero, List.set_cons_succ]
                  refine rgn.Walk.ys (v := ?_) rfl rfl rfl ?_ ?_
                  rotate_left 1
                  · intro W' hW'
                    have q0 := (QW.out.trans hW').keep HP3.out
                    go_simp
                    try with_reducible rfl
                  try simp only [Act.put, List.setIfInBounds_toArray, List.set_cons_zero, List.set_cons_succ]
                  refine rgn.Walk.ys (v := ?_) rfl rfl rfl ?_ ?_
                  rotate_left 1
                  · intro W' hW'
                    go_simp
                    try with_reducible rfl
                  try simp only [Act.put, List.setIfInBounds_toArray, List.set_cons_zero, List.set_cons_succ]
                  refine rgn.Walk.ys (v := ?_) rfl rfl rfl ?_ ?_
                  rotate_left 1
                  · intro W' hW'
                    go_simp
                    try with_reducible rfl
                  try simp only [Act.put, List.setIfInBounds_toArray, List.set_cons_zero, List.set_cons_succ]
                  refine rgn.Walk.ys (v := ?_) rfl rfl rfl ?_ ?_
                  rotate_left 1
                  · intro W' hW'
                    go_simp
                    try with_reducible rfl
                  try simp only [Act.put, List.setIfInBounds_toArray, List.set_cons_zero, List.set_cons_succ]
                  refine rgn.Walk.ys (v := ?_) rfl rfl rfl ?_ ?_
                  rotate_left 1
                  · intro W' hW'
                    go_simp
                    try with_reducible rfl
                  try simp only [Act.put, List.setIfInBounds_toArray, List.set_cons_zero, List.set_cons_succ]
                  refine rgn.Walk.ys (v := ?_) rfl rfl rfl ?_ ?_
                  rotate_left 1
                  · intro W' hW'
                    have q0 := (QW.out.trans hW').keep HQ3.out
                    go_simp
                    try with_reducible rfl
                  try simp only [Act.put, List.setIfInBounds_toArray, List.set_cons_zero, List.set_cons_succ]
                  refine rgn.Walk.ys (v := ?_) rfl rfl rfl ?_ ?_
                  rotate_left 1
                  · intro W' hW'
                    go_simp
                    try with_reducible rfl
                  try simp only [Act.put, List.setIfInBounds_toArray, List.set_cons_zero, List.set_cons_succ]
                  refine rgn.Walk.ys (v := ?_) rfl rfl rfl ?_ ?_
                  rotate_left 1
                  · intro W' hW'
                    go_simp
                    try with_reducible rfl
                  try simp only [Act.put, List.setIfInBounds_toArray, List.set_cons_zero, List.set_cons_succ]
                  refine rgn.Walk.zs (NoPanic.normal ?_)
                  have HJ2 : Hid (∀ b, b < j + 1 → ¬ Key (gr V0 V1 V2 V3 i) (gr V0 V1 V2 V3 b)) := hid (fun b hb => by
                    rcases Nat.lt_or_ge b j with h9 | h9
                    · exact HJ.out b h9
                    · obtain rfl : b = j := by omega
                      rw [HKK.out]; omega)
                  go_wp2_with fail
                  go_roundw
                  case rel => exact ⟨j + 1, by first | rfl | go_num, by omega, HJ2, QQ⟩
                  case measure => simp [RowKit.intOf]; omega
              · have z0 : (x0 == y0) = true := by simpa using h0
                have z1 : (x1 == y1) = false := by simpa using h1
                go_wp2_with fail
                refine wp_region_noPanic ?_
                refine rgn.regionT (R := Only []) (by kernel_rfl) (Only.refl []) (fun _ _ _ => Only.trans) (fun _ _ _ _ _ h => h) (.y 0 (.y 1 (.y 2 (.y 3 (.y 4 (.y 5 (.y 6 (.y 7 (.y 8 (.y 9 (.y 10 (.y 11 (.y 12 (.y 13 (.y 14 (.y 15 (.y 16 (.y 17 (.y 18 (.y 19 (.y 20 (.y 21 (.y 22 (.y 23 (.y 24 (.y 25 (.y 26 (.y 27 (.y 28 (.y 29 (.y 30 (.y 31 (.y 32 (.y 33 (.y 34 (.y 35 (.y 36 .z))))))))))))))))))))))))))))))))))))) (by kernel_rfl) (fun W hWd => ?_)
                have HWd := hid hWd; clear hWd
                have q8 : Only [] wr W := Only.eq_drew (Only.refl [] _) HWd.out
                have QW := hid q8; have QQ := hid (Q.out.trans q8)
                clear q8 HWd
                refine rgn.Walk.ys (v := ?_) rfl rfl rfl ?_ ?_
                rotate_left 1
                · intro W' hW'
                  go_simp
                  try with_reducible rfl
                try simp only [Act.put, List.setIfInBounds_toArray, List.set_cons_zero, List.set_cons_succ]
                refine rgn.Walk.ys (v := ?_) rfl rfl rfl ?_ ?_
                rotate_left 1
                · intro W' hW'
                  go_simp
                  try with_reducible rfl
                try simp only [Act.put, List.setIfInBounds_toArray, List.set_cons_zero, List.set_cons_succ]
                refine rgn.Walk.ys (v := ?_) rfl rfl rfl ?_ ?_
                rotate_left 1
                · intro W' hW'
                  go_simp
                  try with_reducible rfl
                try simp only [Act.put, List.setIfInBounds_toArray, List.set_cons_zero, List.set_cons_succ]
                refine rgn.Walk.ys (v := ?_) rfl rfl rfl ?_ ?_
                rotate_left 1
                · intro W' hW'
                  go_simp
                  try with_reducible rfl
                try simp only [Act.put, List.setIfInBounds_toArray, List.set_cons_zero, List.set_cons_succ]
                refine rgn.Walk.ys (v := ?_) rfl rfl rfl ?_ ?_
                rotate_left 1
                · intro W' hW'
                  have q0 := (QW.out.trans hW').keep HP0.out
                  go_simp
                  try with_reducible rfl
                try simp only [Act.put, List.setIfInBounds_toArray, List.set_cons_zero, List.set_cons_succ]
                refine rgn.Walk.ys (v := ?_) rfl rfl rfl ?_ ?_
                rotate_left 1
                · intro W' hW'
                  go_simp
                  try with_reducible rfl
                try simp only [Act.put, List.setIfInBounds_toArray, List.set_cons_zero, List.set_cons_succ]
                refine rgn.Walk.ys (v := ?_) rfl rfl rfl ?_ ?_
                rotate_left 1
                · intro W' hW'
                  go_simp
                  try with_reducible rfl
                try simp only [Act.put, List.setIfInBounds_toArray, List.set_cons_zero, List.set_cons_succ]
                refine rgn.Walk.ys (v := ?_) rfl rfl rfl ?_ ?_
                rotate_left 1
                · intro W' hW'
                  go_simp
                  try with_reducible rfl
                try simp only [Act.put, List.setIfInBounds_toArray, List.set_cons_zero, List.set_cons_succ]
                refine rgn.Walk.ys (v := ?_) rfl rfl rfl ?_ ?_
                rotate_left 1
                · intro W' hW'
                  go_simp
                  try with_reducible rfl
                try simp only [Act.put, List.setIfInBounds_toArray, List.set_cons_zero, List.set_cons_succ]
                refine rgn.Walk.ys (v := ?_) rfl rfl rfl ?_ ?_
                rotate_left 1
                · intro W' hW'
                  have q0 := (QW.out.trans hW').keep HQ0.out
                  go_simp
                  try with_reducible rfl
                try simp only [Act.put, List.setIfInBounds_toArray, List.set_cons_zero, List.set_cons_succ]
                refine rgn.Walk.ys (v := ?_) rfl rfl rfl ?_ ?_
                rotate_left 1
                · intro W' hW'
                  go_simp
                  try with_reducible rfl
                try simp only [Act.put, List.setIfInBounds_toArray, List.set_cons_zero, List.set_cons_succ]
                refine rgn.Walk.ys (v := ?_) rfl rfl rfl ?_ ?_
                rotate_left 1
                · intro W' hW'
                  go_simp
                  try with_reducible rfl
                try simp only [Act.put, List.setIfInBounds_toArray, List.set_cons_zero, List.set_cons_succ]
                refine rgn.Walk.ys (v := ?_) rfl rfl rfl ?_ ?_
                rotate_left 1
                · intro W' hW'
                  go_simp
                  try with_reducible rfl
                try simp only [Act.put, List.setIfInBounds_toArray, List.set_cons_zero, List.set_cons_succ]
                refine rgn.Walk.ys (v := ?_) rfl rfl rfl ?_ ?_
                rotate_left 1
                · intro W' hW'
                  go_simp
                  try with_reducible rfl
                try simp only [Act.put, List.setIfInBounds_toArray, List.set_cons_zero, List.set_cons_succ]
                refine rgn.Walk.ys (v := ?_) rfl rfl rfl ?_ ?_
                rotate_left 1
                · intro W' hW'
                  go_simp
                  try with_reducible rfl
                try simp only [Act.put, List.setIfInBounds_toArray, List.set_cons_zero, List.set_cons_succ]
                refine rgn.Walk.ys (v := ?_) rfl rfl rfl ?_ ?_
                rotate_left 1
                · intro W' hW'
                  go_simp
                  try with_reducible rfl
                try simp only [Act.put, List.setIfInBounds_toArray, List.set_cons_zero, List.set_cons_succ]
                refine rgn.Walk.ys (v := ?_) rfl rfl rfl ?_ ?_
                rotate_left 1
                · intro W' hW'
                  have q0 := (QW.out.trans hW').keep HP1.out
                  go_simp
                  try with_reducible rfl
                try simp only [Act.put, List.setIfInBounds_toArray, List.set_cons_zero, List.set_cons_succ]
                refine rgn.Walk.ys (v := ?_) rfl rfl rfl ?_ ?_
                rotate_left 1
                · intro W' hW'
                  go_simp
                  try with_reducible rfl
                try simp only [Act.put, List.setIfInBounds_toArray, List.set_cons_zero, List.set_cons_succ]
                refine rgn.Walk.ys (v := ?_) rfl rfl rfl ?_ ?_
                rotate_left 1
                · intro W' hW'
                  go_simp
                  try with_reducible rfl
                try simp only [Act.put, List.setIfInBounds_toArray, List.set_cons_zero, List.set_cons_succ]
                refine rgn.Walk.ys (v := ?_) rfl rfl rfl ?_ ?_
                rotate_left 1
                · intro W' hW'
                  go_simp
                  try with_reducible rfl
                try simp only [Act.put, List.setIfInBounds_toArray, List.set_cons_zero, List.set_cons_succ]
                refine rgn.Walk.ys (v := ?_) rfl rfl rfl ?_ ?_
                rotate_left 1
                · intro W' hW'
                  go_simp
                  try with_reducible rfl
                try simp only [Act.put, List.setIfInBounds_toArray, List.set_cons_zero, List.set_cons_succ]
                refine rgn.Walk.ys (v := ?_) rfl rfl rfl ?_ ?_
                rotate_left 1
                · intro W' hW'
                  have q0 := (QW.out.trans hW').keep HQ1.out
                  go_simp
                  try with_reducible rfl
                try simp only [Act.put, List.setIfInBounds_toArray, List.set_cons_zero, List.set_cons_succ]
                refine rgn.Walk.ys (v := ?_) rfl rfl rfl ?_ ?_
                rotate_left 1
                · intro W' hW'
                  go_simp
                  try with_reducible rfl
                try simp only [Act.put, List.setIfInBounds_toArray, List.set_cons_zero, List.set_cons_succ]
                refine rgn.Walk.ys (v := ?_) rfl rfl rfl ?_ ?_
                rotate_left 1
                · intro W' hW'
                  go_simp
                  try with_reducible rfl
                try simp only [Act.put, List.setIfInBounds_toArray, List.set_cons_zero, List.set_cons_succ]
                refine rgn.Walk.ys (v := ?_) rfl rfl rfl ?_ ?_
                rotate_left 1
                · intro W' hW'
                  go_simp
                  try with_reducible rfl
                try simp only [Act.put, List.setIfInBounds_toArray, List.set_cons_zero, List.set_cons_succ]
                refine rgn.Walk.yn rfl rfl rfl ?_
                try simp only [Act.put, List.setIfInBounds_toArray, List.set_cons_zero, List.set_cons_succ]
                refine rgn.Walk.yn rfl rfl rfl ?_
                try simp only [Act.put, List.setIfInBounds_toArray, List.set_cons_zero, List.set_cons_succ]
                refine rgn.Walk.yn rfl rfl rfl ?_
                try simp only [Act.put, List.setIfInBounds_toArray, List.set_cons_zero, List.set_cons_succ]
                refine rgn.Walk.yn rfl rfl rfl ?_
                try simp only [Act.put, List.setIfInBounds_toArray, List.set_cons_zero, List.set_cons_succ]
                refine rgn.Walk.yn rfl rfl rfl ?_
                try simp only [Act.put, List.setIfInBounds_toArray, List.set_cons_zero, List.set_cons_succ]
                refine rgn.Walk.yn rfl rfl rfl ?_
                try simp only [Act.put, List.setIfInBounds_toArray, List.set_cons_zero, List.set_cons_succ]
                refine rgn.Walk.yn rfl rfl rfl ?_
                try simp only [Act.put, List.setIfInBounds_toArray, List.set_cons_zero, List.set_cons_succ]
                refine rgn.Walk.yn rfl rfl rfl ?_
                try simp only [Act.put, List.setIfInBounds_toArray, List.set_cons_zero, List.set_cons_succ]
                refine rgn.Walk.yn rfl rfl rfl ?_
                try simp only [Act.put, List.setIfInBounds_toArray, List.set_cons_zero, List.set_cons_succ]
                refine rgn.Walk.yn rfl rfl rfl ?_
                try simp only [Act.put, List.setIfInBounds_toArray, List.set_cons_zero, List.set_cons_succ]
                refine rgn.Walk.yn rfl rfl rfl ?_
                try simp only [Act.put, List.setIfInBounds_toArray, List.set_cons_zero, List.set_cons_succ]
                refine rgn.Walk.ys (v := ?_) rfl rfl rfl ?_ ?_
                rotate_left 1
                · intro W' hW'
                  go_simp
                  try with_reducible rfl
                try simp only [Act.put, List.setIfInBounds_toArray, List.set_cons_zero, List.set_cons_succ]
                refine rgn.Walk.zs (NoPanic.normal ?_)
                have HJ2 : Hid (∀ b, b < j + 1 → ¬ Key (gr V0 V1 V2 V3 i) (gr V0 V1 V2 V3 b)) := hid (fun b hb => by
                  rcases Nat.lt_or_ge b j with h9 | h9
                  · exact HJ.out b h9
                  · obtain rfl : b = j := by omega
                    rw [HKK.out]; omega)
                go_wp2_with fail
                go_roundw
                case rel => exact ⟨j + 1, by first | rfl | go_num, by omega, HJ2, QQ⟩
                case measure => simp [RowKit.intOf]; omega
            · have z0 : (x0 == y0) = false := by simpa using h0
              go_wp2_with fail
              refine wp_region_noPanic ?_
              refine rgn.regionT (R := Only []) (by kernel_rfl) (Only.refl []) (fun _ _ _ => Only.trans) (fun _ _ _ _ _ h => h) (.y 0 (.y 1 (.y 2 (.y 3 (.y 4 (.y 5 (.y 6 (.y 7 (.y 8 (.y 9 (.y 10 (.y 11 (.y 12 (.y 13 (.y 14 (.y 15 (.y 16 (.y 17 (.y 18 (.y 19 (.y 20 (.y 21 (.y 22 (.y 23 (.y 24 (.y 25 (.y 26 (.y 27 (.y 28 (.y 29 (.y 30 (.y 31 (.y 32 (.y 33 (.y 34 (.y 35 (.y 36 .z))))))))))))))))))))))))))))))))))))) (by kernel_rfl) (fun W hWd => ?_)
              have HWd := hid hWd; clear hWd
              have q8 : Only [] wr W := Only.eq_drew (Only.refl [] _) HWd.out
              have QW := hid q8; have QQ := hid (Q.out.trans q8)
              clear q8 HWd
              refine rgn.Walk.ys (v := ?_) rfl rfl rfl ?_ ?_
              rotate_left 1
              · intro W' hW'
                go_simp
                try with_reducible rfl
              try simp only [Act.put, List.setIfInBounds_toArray, List.set_cons_zero, List.set_cons_succ]
              refine rgn.Walk.ys (v := ?_) rfl rfl rfl ?_ ?_
              rotate_left 1
              · intro W' hW'
                go_simp
                try with_reducible rfl
              try simp only [Act.put, List.setIfInBounds_toArray, List.set_cons_zero, List.set_cons_succ]
              refine rgn.Walk.ys (v := ?_) rfl rfl rfl ?_ ?_
              rotate_left 1
              · intro W' hW'
                go_simp
                try with_reducible rfl
              try simp only [Act.put, List.setIfInBounds_toArray, List.set_cons_zero, List.set_cons_succ]
              refine rgn.Walk.ys (v := ?_) rfl rfl rfl ?_ ?_
              rotate_left 1
              · intro W' hW'
                go_simp
                try with_reducible rfl
              try simp only [Act.put, List.setIfInBounds_toArray, List.set_cons_zero, List.set_cons_succ]
              refine rgn.Walk.ys (v := ?_) rfl rfl rfl ?_ ?_
              rotate_left 1
              · intro W' hW'
                have q0 := (QW.out.trans hW').keep HP0.out
                go_simp
                try with_reducible rfl
              try simp only [Act.put, List.setIfInBounds_toArray, List.set_cons_zero, List.set_cons_succ]
              refine rgn.Walk.ys (v := ?_) rfl rfl rfl ?_ ?_
              rotate_left 1
              · intro W' hW'
                go_simp
                try with_reducible rfl
              try simp only [Act.put, List.setIfInBounds_toArray, List.set_cons_zero, List.set_cons_succ]
              refine rgn.Walk.ys (v := ?_) rfl rfl rfl ?_ ?_
              rotate_left 1
              · intro W' hW'
                go_simp
                try with_reducible rfl
              try simp only [Act.put, List.setIfInBounds_toArray, List.set_cons_zero, List.set_cons_succ]
              refine rgn.Walk.ys (v := ?_) rfl rfl rfl ?_ ?_
              rotate_left 1
              · intro W' hW'
                go_simp
                try with_reducible rfl
              try simp only [Act.put, List.setIfInBounds_toArray, List.set_cons_zero, List.set_cons_succ]
              refine rgn.Walk.ys (v := ?_) rfl rfl rfl ?_ ?_
              rotate_left 1
              · intro W' hW'
                go_simp
                try with_reducible rfl
              try simp only [Act.put, List.setIfInBounds_toArray, List.set_cons_zero, List.set_cons_succ]
              refine rgn.Walk.ys (v := ?_) rfl rfl rfl ?_ ?_
              rotate_left 1
              · intro W' hW'
                have q0 := (QW.out.trans hW').keep HQ0.out
                go_simp
                try with_reducible rfl
              try simp only [Act.put, List.setIfInBounds_toArray, List.set_cons_zero, List.set_cons_succ]
              refine rgn.Walk.ys (v := ?_) rfl rfl rfl ?_ ?_
              rotate_left 1
              · intro W' hW'
                go_simp
                try with_reducible rfl
              try simp only [Act.put, List.setIfInBounds_toArray, List.set_cons_zero, List.set_cons_succ]
              refine rgn.Walk.ys (v := ?_) rfl rfl rfl ?_ ?_
              rotate_left 1
              · intro W' hW'
                go_simp
                try with_reducible rfl
              try simp only [Act.put, List.setIfInBounds_toArray, List.set_cons_zero, List.set_cons_succ]
              refine rgn.Walk.yn rfl rfl rfl ?_
              try simp only [Act.put, List.setIfInBounds_toArray, List.set_cons_zero, List.set_cons_succ]
              refine rgn.Walk.yn rfl rfl rfl ?_
              try simp only [Act.put, List.setIfInBounds_toArray, List.set_cons_zero, List.set_cons_succ]
              refine rgn.Walk.yn rfl rfl rfl ?_
              try simp only [Act.put, List.setIfInBounds_toArray, List.set_cons_zero, List.set_cons_succ]
              refine rgn.Walk.yn rfl rfl rfl ?_
              try simp only [Act.put, List.setIfInBounds_toArray, List.set_cons_zero, List.set_cons_succ]
              refine rgn.Walk.yn rfl rfl rfl ?_
              try simp only [Act.put, List.setIfInBounds_toArray, List.set_cons_zero, List.set_cons_succ]
              refine rgn.Walk.yn rfl rfl rfl ?_
              try simp only [Act.put, List.setIfInBounds_toArray, List.set_cons_zero, List.set_cons_succ]
              refine rgn.Walk.yn rfl rfl rfl ?_
              try simp only [Act.put, List.setIfInBounds_toArray, List.set_cons_zero, List.set_cons_succ]
              refine rgn.Walk.yn rfl rfl rfl ?_
              try simp only [Act.put, List.setIfInBounds_toArray, List.set_cons_zero, List.set_cons_succ]
              refine rgn.Walk.yn rfl rfl rfl ?_
              try simp only [Act.put, List.setIfInBounds_toArray, List.set_cons_zero, List.set_cons_succ]
              refine rgn.Walk.yn rfl rfl rfl ?_
              try simp only [Act.put, List.setIfInBounds_toArray, List.set_cons_zero, List.set_cons_succ]
              refine rgn.Walk.yn rfl rfl rfl ?_
              try simp only [Act.put, List.setIfInBounds_toArray, List.set_cons_zero, List.set_cons_succ]
              refine rgn.Walk.ys (v := ?_) rfl rfl rfl ?_ ?_
              rotate_left 1
              · intro W' hW'
                go_simp
                try with_reducible rfl
              try simp only [Act.put, List.setIfInBounds_toArray, List.set_cons_zero, List.set_cons_succ]
              refine rgn.Walk.ys (v := ?_) rfl rfl rfl ?_ ?_
              rotate_left 1
              · intro W' hW'
                go_simp
                try with_reducible rfl
              try simp only [Act.put, List.setIfInBounds_toArray, List.set_cons_zero, List.set_cons_succ]
              refine rgn.Walk.yn rfl rfl rfl ?_
              try simp only [Act.put, List.setIfInBounds_toArray, List.set_cons_zero, List.set_cons_succ]
              refine rgn.Walk.yn rfl rfl rfl ?_
              try simp only [Act.put, List.setIfInBounds_toArray, List.set_cons_zero, List.set_cons_succ]
              refine rgn.Walk.yn rfl rfl rfl ?_
              try simp only [Act.put, List.setIfInBounds_toArray, List.set_cons_zero, List.set_cons_succ]
              refine rgn.Walk.yn rfl rfl rfl ?_
              try simp only [Act.put, List.setIfInBounds_toArray, List.set_cons_zero, List.set_cons_succ]
              refine rgn.Walk.yn rfl rfl rfl ?_
              try simp only [Act.put, List.setIfInBounds_toArray, List.set_cons_zero, List.set_cons_succ]
              refine rgn.Walk.yn rfl rfl rfl ?_
              try simp only [Act.put, List.setIfInBounds_toArray, List.set_cons_zero, List.set_cons_succ]
              refine rgn.Walk.yn rfl rfl rfl ?_
              try simp only [Act.put, List.setIfInBounds_toArray, List.set_cons_zero, List.set_cons_succ]
              refine rgn.Walk.yn rfl rfl rfl ?_
              try simp only [Act.put, List.setIfInBounds_toArray, List.set_cons_zero, List.set_cons_succ]
              refine rgn.Walk.yn rfl rfl rfl ?_
              try simp only [Act.put, List.setIfInBounds_toArray, List.set_cons_zero, List.set_cons_succ]
              refine rgn.Walk.yn rfl rfl rfl ?_
              try simp only [Act.put, List.setIfInBounds_toArray, List.set_cons_zero, List.set_cons_succ]
              refine rgn.Walk.yn rfl rfl rfl ?_
              try simp only [Act.put, List.setIfInBounds_toArray, List.set_cons_zero, List.set_cons_succ]
              refine rgn.Walk.ys (v := ?_) rfl rfl rfl ?_ ?_
              rotate_left 1
              · intro W' hW'
                go_simp
                try with_reducible rfl
              try simp only [Act.put, List.setIfInBounds_toArray, List.set_cons_zero, List.set_cons_succ]
              refine rgn.Walk.zs (NoPanic.normal ?_)
              have HJ2 : Hid (∀ b, b < j + 1 → ¬ Key (gr V0 V1 V2 V3 i) (gr V0 V1 V2 V3 b)) := hid (fun b hb => by
                rcases Nat.lt_or_ge b j with h9 | h9
                · exact HJ.out b h9
                · obtain rfl : b = j := by omega
                  rw [HKK.out]; omega)
              go_wp2_with fail
              go_roundw
              case rel => exact ⟨j + 1, by first | rfl | go_num, by omega, HJ2, QQ⟩
              case measure => simp [RowKit.intOf]; omega
          · have HK2 : Hid (∀ a, a < i + 1 → ∀ b, b < a → ¬ Key (gr V0 V1 V2 V3 a) (gr V0 V1 V2 V3 b)) := hid (fun a ha b hb => by
              rcases Nat.lt_or_ge a i with h1 | h1
              · exact HK.out a h1 b hb
              · obtain rfl : a = i := by omega
                exact HJ.out b (by omega))
            go_wp2_with fail
            go_roundw
            case rel => exact ⟨i + 1, by first | rfl | go_num, by omega, HK2, Q⟩
            case measure => simp [RowKit.intOf]; omega
      · obtain rfl : i = len := by omega
        obtain ⟨W1, hW1⟩ : ∃ W1, wr.alloc (.cells #[.pointer none, .int .i64 0] 26) = W1 := ⟨_, rfl⟩
        obtain ⟨W2, hW2⟩ : ∃ W2, W1.alloc (.cells #[.pointer none, .int .i64 0] 26) = W2 := ⟨_, rfl⟩
        have q1 : Only [] wr W1 := by rw [← hW1]; exact (Only.refl [] wr).alloc _
        have q2 : Only [] W1 W2 := by rw [← hW2]; exact (Only.refl [] W1).alloc _
        have t1 : TV W2 w.heap.size wr.heap.size .nil [] := TV.nil (by rw [← hW1]; exact TV.new wr _) q2
        have t2 : TV W2 w.heap.size W1.heap.size .nil [] := by rw [← hW2]; exact TV.new W1 _
        have hne : wr.heap.size < W1.heap.size := by rw [← hW1]; simp
        have HGL : Hid (w.heap.size ≤ wr.heap.size) := hid Q.out.size
        have HNE := hid hne
        have HT : Hid (Ord w W2 w.heap.size wr.heap.size W1.heap.size V0 V1 V2 V3 i 0) := hid ⟨.nil, .nil, [], [], ⟨t1, t2, by omega, by simp [Tr.bks], by simp [Tr.bks], by simp [Tr.bks]⟩, List.Perm.refl _, List.Perm.refl _⟩
        have Q2 := hid ((Q.out.trans q1).trans q2)
        clear q1 q2 t1 t2 hne Q
        obtain ⟨g1, hg1⟩ : ∃ g1, wr.heap.size = g1 := ⟨_, rfl⟩
        obtain ⟨g2, hg2⟩ : ∃ g2, W1.heap.size = g2 := ⟨_, rfl⟩
        rw [hg1] at HT HGL HNE; rw [hg2] at HT HNE
        go_wp2_with fail
        clear hg1 hg2 hW1 hW2
        go_loopw [7] (fun k wr => ∃ (n : Nat), k = .int .i64 n ∧ n ≤ i ∧ Hid (Ord w wr w.heap.size g1 g2 V0 V1 V2 V3 i n) ∧ Hid (Only [] w wr)) (fun k _ => i - (RowKit.intOf k).toNat)
        case atStart => exact ⟨0, rfl, by omega, HT, Q2⟩
        case round =>
          clear HT Q2
          obtain ⟨n, rfl, hn, HO, Q⟩ := hrel
          obtain ⟨t, u, D, E, htu, hD, hE⟩ := HO.out
          have H := hid htu; have HD := hid hD; have HE := hid hE
          clear htu hD hE HO
          by_cases hni : n < i
          · obtain ⟨b, off, rfl, hb, hc⟩ := HA.out.cells (by omega)
            obtain ⟨m, hm⟩ : ∃ m, i - 1 - n = m := ⟨_, rfl⟩
            have hml : m < i := by omega
            have hmz : (i : Int) - 1 - (n : Int) = (m : Int) := by omega
            obtain ⟨p0, p1, p2, p3⟩ := hc n hni
            obtain ⟨q0, q1, q2, q3⟩ := hc m hml
            have HWp := hid (u32Bd (HA.out.rd n hni).1); have HWq := hid (u32Bd (HA.out.rd m hml).1)
            have HC := hid (show ∀ W, Only [] w W → (W.cell? ⟨b, off + m * 4, none⟩ = some (.int .u32 (V0 m)) ∧ W.cell? ⟨b, off + m * 4 + 1, none⟩ = some (.int .i64 (V1 m)) ∧ W.cell? ⟨b, off + m * 4 + 2, none⟩ = some (.int .u32 (V2 m)) ∧ W.cell? ⟨b, off + m * 4 + 3, none⟩ = some (.int .i64 (V3 m))) from fun W o => ⟨o.keep q0, o.keep q1, o.keep q2, o.keep q3⟩)
            replace p0 := Q.out.keep p0; replace p1 := Q.out.keep p1; replace p2 := Q.out.keep p2; replace p3 := Q.out.keep p3
            have HGn : Hid (gr V0 V1 V2 V3 n = ⟨V0 n, V1 n, V2 n, V3 n⟩) := hid rfl
            have HGm : Hid (gr V0 V1 V2 V3 (i - 1 - n) = ⟨V0 m, V1 m, V2 m, V3 m⟩) := hid (by rw [hm]; rfl)
            clear hc q0 q1 q2 q3 hm hb
            generalize V0 n = x0 at p0 HGn HWp; generalize V1 n = x1 at p1 HGn; generalize V2 n = x2 at p2 HGn; generalize V3 n = x3 at p3 HGn
            generalize V0 m = y0 at HC HGm HWq; generalize V1 m = y1 at HC HGm; generalize V2 m = y2 at HC HGm; generalize V3 m = y3 at HC HGm
            have HMZ := hid hmz; clear hmz
            go_wp2_with fail
            clear p0 p1 p2 p3
            refine (addT wr w.heap.size g1 t D ⟨x0, x1, x2, x3⟩ H.out.T (Q.out.size) HWp.out).mono ?_
            rintro x w1 ⟨e1, D1, t1, rfl, a1, s1⟩
            have Q1 := hid (s1.quiet H.out.T HGL.out Q.out (Nat.le_refl _))
            have H1 := hid (H.out.left s1)
            have HD1 : Hid (D1.Perm (vs (grs V0 V1 V2 V3 (n + 1)))) := hid (by
              rw [grs_succ, HGn.out]
              refine vs_step a1 HD.out (fun y hy hk => ?_) (by simp [grs]; omega)
              obtain ⟨j, hj, rfl⟩ := List.mem_map.1 hy
              have hj2 : j < n := by simpa using hj
              rw [← HGn.out] at hk
              exact HK.out n hni j hj2 hk.symm)
            clear a1 s1
            obtain ⟨q0, q1, q2, q3⟩ := HC.out w1 Q1.out
            have hmz := HMZ.out
            go_wp2_with fail
            clear q0 q1 q2 q3 hmz
            refine (addT w1 w.heap.size g2 u E ⟨y0, y1, y2, y3⟩ H1.out.U (Q1.out.size) HWq.out).mono ?_
            rintro x w2 ⟨e2, E2, u2, rfl, a2, s2⟩
            have Q2 := hid (s2.quiet H1.out.U (by have := HGL.out; have := HNE.out; omega) Q1.out (Nat.le_refl _))
            have H2 := hid (H1.out.symm.left s2).symm
            have HE2 : Hid (E2.Perm (vs (bck V0 V1 V2 V3 i (n + 1)))) := hid (by
              rw [bck_succ, HGm.out]
              refine vs_step a2 HE.out (fun y hy hk => ?_) (by simp [bck]; omega)
              obtain ⟨j, hj, rfl⟩ := List.mem_map.1 hy
              have hj2 : j < n := by simpa using hj
              rw [← HGm.out] at hk
              exact HK.out (i - 1 - j) (by omega) (i - 1 - n) (by omega) hk)
            clear a2 s2
            have HO : Hid (Ord w w2 w.heap.size g1 g2 V0 V1 V2 V3 i (n + 1)) := hid ⟨_, _, _, _, H2.out, HD1.out, HE2.out⟩
            clear H H1 HD1 HE2 HD HE H2
            go_wp2_with fail
            go_roundw
            case rel => exact ⟨n + 1, by first | rfl | go_num, by omega, HO, Q2⟩
            case measure => simp [RowKit.intOf]; omega
          · obtain rfl : n = i := by omega
            have hDE : D = E := srt_unique _ _ H.out.T.srt H.out.U.srt (HD.out.trans (by
              have h9 := HE.out
              refine List.Perm.trans ?_ h9.symm
              exact (bck_all V0 V1 V2 V3 n).symm.filter _))
            subst hDE
            clear HD HE
            go_wp2_with fail
            refine (allT wr w.heap.size g1 t D H.out.T).mono ?_
            rintro x w3 ⟨v3, rfl, hv3, o3⟩
            obtain ⟨A3, c3, e3, _, _, _, r3, _, _⟩ := RdS.of_own hv3 (rws_one enc_one _)
            subst e3
            have R3 := hid r3; have H3 := hid (H.out.nil o3); have Q3 := hid (Q.out.trans o3)
            clear r3 hv3 o3
            go_wp2_with fail
            refine (allT w3 w.heap.size g2 u D H3.out.U).mono ?_
            rintro x w4 ⟨v4, rfl, hv4, o4⟩
            obtain ⟨A4, c4, e4, _, _, _, r4, _, _⟩ := RdS.of_own hv4 (rws_one enc_one _)
            subst e4
            have R4 := hid r4; replace R3 := hid (R3.out.only_nil o4); have Q4 := hid (Q3.out.trans o4); have H4 := hid (H3.out.nil o4)
            clear r4 hv4 o4
            go_wp2_with fail
            refine (rows1 w4 A3 A4 _ c3 c4 D R3.out R4.out rfl (by have := H4.out.T.len; omega)).mono ?_
            rintro x w5 ⟨rfl, o5⟩
            have Q5 := hid (Q4.out.trans o5)
            clear o5
            go_wp2_with fail
            refine (known1 w5).mono ?_
            rintro x w6 ⟨rfl, o6⟩
            have Q6 := hid (Q5.out.trans o6)
            clear o6
            go_wp2_with fail
            go_ret
            exact ⟨rfl, Q6.out⟩
end Go.Proofs.Ytoidpakenocllaa.rou
