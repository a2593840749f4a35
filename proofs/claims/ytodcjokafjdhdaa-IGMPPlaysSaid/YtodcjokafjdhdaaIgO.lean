/-
  Chapter 10 (igmp): the law's comparing of rows, by a walk of each text. Conditions: none but those typed.
-/
import Derived.Test.YtodcjokafjdhdaaIgNr
import Derived.Test.YtodcjokafjdhdaaIgNq
namespace Go.Proofs.Ytodcjokafjdhdaa.igm
set_option linter.unusedVariables false
set_option linter.unusedSimpArgs false
open Go.ChangeShapes Go.WideShapes Go.ChangeAt Go.RowKit Go.IntWalk Go.Lib
theorem eqGm (a b c : Int) (W : World) : (Op.equalIn 10000 25 (.agg #[.int .i64 a, .int .i64 b, .int .u32 c]) (.agg #[.int .i64 a, .int .i64 b, .int .u32 c])).run Try.prog W = .ok true W := by
  go_simp
/-- A message's cells. -/
def msg (m : Int × Int × Int) : List Value := [.int .i64 m.1, .int .i64 m.2.1, .int .u32 m.2.2]
theorem msg_len (m : Int × Int × Int) : (msg m).length = 3 := rfl
theorem msg_ign (L : List Int) : rws ign L = rws msg (L.map fun t => (22, 0, t)) := by
  unfold rws; rw [List.flatMap_map]; rfl
set_option maxRecDepth 100000 in
set_option maxHeartbeats 4000000 in
theorem messages1 (w : World) (A B : Option Addr) (n c1 c2 : Nat) (D : List (Int × Int × Int)) (h1 : RdS w A n 3 (rws msg D)) (h2 : RdS w B n 3 (rws msg D)) (hn : D.length = n) (hb : n ≤ 100000) :
    Calls Try.prog 36 #[.slice A n c1, .slice B n c2] w fun x w' => x = .returned (.bool true) ∧ Only [] w w' := by
  have H1 := hid h1; have H2 := hid h2; have HN := hid hn
  clear h1 h2 hn
  go_enter Try.func36, Try.ntmps36
  go_wp2_with fail
  go_loopw [5] (fun i wr => ∃ k : Nat, k ≤ n ∧ i = .int .i64 k ∧ Hid (Only [] w wr)) (fun i _ => n - (RowKit.intOf i).toNat)
  case atStart => exact ⟨0, by omega, rfl, hid (Only.refl _ _)⟩
  case round =>
    obtain ⟨k, hk, rfl, HQ⟩ := hrel
    by_cases hlt : k < n
    · have hkl : k < D.length := by rw [HN.out]; exact hlt
      obtain ⟨b, off, rfl, hb1, hc1⟩ := (H1.out.only_nil HQ.out).elem HN.out msg_len (by omega) k hkl
      obtain ⟨b2, off2, rfl, hb2, hc2⟩ := (H2.out.only_nil HQ.out).elem HN.out msg_len (by omega) k hkl
      generalize D[k] = r at hc1 hc2
      obtain ⟨ra, rb, rc⟩ := r
      have HC1 := hid hc1; have HC2 := hid hc2
      clear hc1 hc2 hkl
      go_wp2_with fail
      refine wp_region_noPanic ?_
      refine rgn.regionT (R := Only []) (by kernel_rfl) (Only.refl []) (fun _ _ _ => Only.trans) (fun _ _ _ _ _ h => h) (.y 0 (.y 1 (.y 2 (.y 3 (.y 4 (.y 5 (.y 6 (.y 7 (.y 8 .z))))))))) (by kernel_rfl) (fun W hWd => ?_)
      have HWd := hid hWd; clear hWd
      have q8 : Only [] wr W := Only.eq_drew (Only.refl [] _) HWd.out
      have QW := hid q8; have QQ := hid (HQ.out.trans q8)
      clear q8 HWd
      refine rgn.Walk.ys (v := ?_) rfl rfl rfl ?_ ?_
      rotate_left 1
      · intro W' hW'
        go_simp
        try with_reducible rfl
      try simp only [Act.put, List.setIfInBounds_toArray, List.set_cons_zero, List.set_cons_succ]
      refine rgn.Walk.ys (v := ?_) rfl rfl rfl ?_ ?_
      rotate_left 1
      · intro W' hW'
        go_simp
        try with_reducible rfl
      try simp only [Act.put, List.setIfInBounds_toArray, List.set_cons_zero, List.set_cons_succ]
      refine rgn.Walk.ys (v := ?_) rfl rfl rfl ?_ ?_
      rotate_left 1
      · intro W' hW'
        go_simp
        try with_reducible rfl
      try simp only [Act.put, List.setIfInBounds_toArray, List.set_cons_zero, List.set_cons_succ]
      refine rgn.Walk.ys (v := ?_) rfl rfl rfl ?_ ?_
      rotate_left 1
      · intro W' hW'
        have q0 := (QW.out.trans hW').keep (show wr.cell? ⟨b, off + k * 3, none⟩ = _ from (by have := HC1.out 0 _ rfl; rwa [Nat.add_zero] at this))
        have q1 := (QW.out.trans hW').keep (show wr.cell? ⟨b, off + k * 3 + 1, none⟩ = _ from HC1.out 1 _ rfl)
        have q2 := (QW.out.trans hW').keep (show wr.cell? ⟨b, off + k * 3 + 2, none⟩ = _ from HC1.out 2 _ rfl)
        go_simp
        try with_reducible rfl
      try simp only [Act.put, List.setIfInBounds_toArray, List.set_cons_zero, List.set_cons_succ]
      refine rgn.Walk.ys (v := ?_) rfl rfl rfl ?_ ?_
      rotate_left 1
      · intro W' hW'
        go_simp
        try with_reducible rfl
      try simp only [Act.put, List.setIfInBounds_toArray, List.set_cons_zero, List.set_cons_succ]
      refine rgn.Walk.ys (v := ?_) rfl rfl rfl ?_ ?_
      rotate_left 1
      · intro W' hW'
        go_simp
        try with_reducible rfl
      try simp only [Act.put, List.setIfInBounds_toArray, List.set_cons_zero, List.set_cons_succ]
      refine rgn.Walk.ys (v := ?_) rfl rfl rfl ?_ ?_
      rotate_left 1
      · intro W' hW'
        go_simp
        try with_reducible rfl
      try simp only [Act.put, List.setIfInBounds_toArray, List.set_cons_zero, List.set_cons_succ]
      refine rgn.Walk.ys (v := ?_) rfl rfl rfl ?_ ?_
      rotate_left 1
      · intro W' hW'
        have q0 := (QW.out.trans hW').keep (show wr.cell? ⟨b2, off2 + k * 3, none⟩ = _ from (by have := HC2.out 0 _ rfl; rwa [Nat.add_zero] at this))
        have q1 := (QW.out.trans hW').keep (show wr.cell? ⟨b2, off2 + k * 3 + 1, none⟩ = _ from HC2.out 1 _ rfl)
        have q2 := (QW.out.trans hW').keep (show wr.cell? ⟨b2, off2 + k * 3 + 2, none⟩ = _ from HC2.out 2 _ rfl)
        go_simp
        try with_reducible rfl
      try simp only [Act.put, List.setIfInBounds_toArray, List.set_cons_zero, List.set_cons_succ]
      refine rgn.Walk.ys (v := ?_) rfl rfl rfl ?_ ?_
      rotate_left 1
      · intro W' hW'
        have eqq := eqGm ra rb rc W'
        go_simp
        try with_reducible rfl
      try simp only [Act.put, List.setIfInBounds_toArray, List.set_cons_zero, List.set_cons_succ]
      refine rgn.Walk.zs (NoPanic.normal ?_)
      have eqq := eqGm ra rb rc
      go_wp2_with fail
      go_roundw
      case rel => exact ⟨k + 1, by omega, by first | rfl | go_num, QQ⟩
      case measure => simp [RowKit.intOf]; omega
    · go_wp2_with fail
      go_ret
      exact ⟨rfl, HQ.out⟩
set_option maxRecDepth 100000 in
set_option maxHeartbeats 4000000 in
theorem addrs1 (w : World) (A B : Option Addr) (n c1 c2 : Nat) (D : List (Int)) (h1 : RdS w A n 1 (rws adr D)) (h2 : RdS w B n 1 (rws adr D)) (hn : D.length = n) (hb : n ≤ 100000) :
    Calls Try.prog 20 #[.slice A n c1, .slice B n c2] w fun x w' => x = .returned (.bool true) ∧ Only [] w w' := by
  have H1 := hid h1; have H2 := hid h2; have HN := hid hn
  clear h1 h2 hn
  go_enter Try.func20, Try.ntmps20
  go_wp2_with fail
  go_loopw [5] (fun i wr => ∃ k : Nat, k ≤ n ∧ i = .int .i64 k ∧ Hid (Only [] w wr)) (fun i _ => n - (RowKit.intOf i).toNat)
  case atStart => exact ⟨0, by omega, rfl, hid (Only.refl _ _)⟩
  case round =>
    obtain ⟨k, hk, rfl, HQ⟩ := hrel
    by_cases hlt : k < n
    · have hkl : k < D.length := by rw [HN.out]; exact hlt
      obtain ⟨b, off, rfl, hb1, hc1⟩ := (H1.out.only_nil HQ.out).elem HN.out adr_len (by omega) k hkl
      obtain ⟨b2, off2, rfl, hb2, hc2⟩ := (H2.out.only_nil HQ.out).elem HN.out adr_len (by omega) k hkl
      generalize D[k] = r at hc1 hc2
      have HC1 := hid hc1; have HC2 := hid hc2
      clear hc1 hc2 hkl
      go_wp2_with fail
      refine wp_region_noPanic ?_
      refine rgn.regionT (R := Only []) (by kernel_rfl) (Only.refl []) (fun _ _ _ => Only.trans) (fun _ _ _ _ _ h => h) (.y 0 (.y 1 (.y 2 (.y 3 (.y 4 (.y 5 (.y 6 (.y 7 (.y 8 .z))))))))) (by kernel_rfl) (fun W hWd => ?_)
      have HWd := hid hWd; clear hWd
      have q8 : Only [] wr W := Only.eq_drew (Only.refl [] _) HWd.out
      have QW := hid q8; have QQ := hid (HQ.out.trans q8)
      clear q8 HWd
      refine rgn.Walk.ys (v := ?_) rfl rfl rfl ?_ ?_
      rotate_left 1
      · intro W' hW'
        go_simp
        try with_reducible rfl
      try simp only [Act.put, List.setIfInBounds_toArray, List.set_cons_zero, List.set_cons_succ]
      refine rgn.Walk.ys (v := ?_) rfl rfl rfl ?_ ?_
      rotate_left 1
      · intro W' hW'
        go_simp
        try with_reducible rfl
      try simp only [Act.put, List.setIfInBounds_toArray, List.set_cons_zero, List.set_cons_succ]
      refine rgn.Walk.ys (v := ?_) rfl rfl rfl ?_ ?_
      rotate_left 1
      · intro W' hW'
        go_simp
        try with_reducible rfl
      try simp only [Act.put, List.setIfInBounds_toArray, List.set_cons_zero, List.set_cons_succ]
      refine rgn.Walk.ys (v := ?_) rfl rfl rfl ?_ ?_
      rotate_left 1
      · intro W' hW'
        have q0 := (QW.out.trans hW').keep (show wr.cell? ⟨b, off + k, none⟩ = _ from (by have := HC1.out 0 _ rfl; rwa [Nat.add_zero, Nat.mul_one] at this))
        go_simp
        try with_reducible rfl
      try simp only [Act.put, List.setIfInBounds_toArray, List.set_cons_zero, List.set_cons_succ]
      refine rgn.Walk.ys (v := ?_) rfl rfl rfl ?_ ?_
      rotate_left 1
      · intro W' hW'
        go_simp
        try with_reducible rfl
      try simp only [Act.put, List.setIfInBounds_toArray, List.set_cons_zero, List.set_cons_succ]
      refine rgn.Walk.ys (v := ?_) rfl rfl rfl ?_ ?_
      rotate_left 1
      · intro W' hW'
        go_simp
        try with_reducible rfl
      try simp only [Act.put, List.setIfInBounds_toArray, List.set_cons_zero, List.set_cons_succ]
      refine rgn.Walk.ys (v := ?_) rfl rfl rfl ?_ ?_
      rotate_left 1
      · intro W' hW'
        go_simp
        try with_reducible rfl
      try simp only [Act.put, List.setIfInBounds_toArray, List.set_cons_zero, List.set_cons_succ]
      refine rgn.Walk.ys (v := ?_) rfl rfl rfl ?_ ?_
      rotate_left 1
      · intro W' hW'
        have q0 := (QW.out.trans hW').keep (show wr.cell? ⟨b2, off2 + k, none⟩ = _ from (by have := HC2.out 0 _ rfl; rwa [Nat.add_zero, Nat.mul_one] at this))
        go_simp
        try with_reducible rfl
      try simp only [Act.put, List.setIfInBounds_toArray, List.set_cons_zero, List.set_cons_succ]
      refine rgn.Walk.ys (v := ?_) rfl rfl rfl ?_ ?_
      rotate_left 1
      · intro W' hW'
        go_simp
        try with_reducible rfl
      try simp only [Act.put, List.setIfInBounds_toArray, List.set_cons_zero, List.set_cons_succ]
      refine rgn.Walk.zs (NoPanic.normal ?_)
      go_wp2_with fail
      go_roundw
      case rel => exact ⟨k + 1, by omega, by first | rfl | go_num, QQ⟩
      case measure => simp [RowKit.intOf]; omega
    · go_wp2_with fail
      go_ret
      exact ⟨rfl, HQ.out⟩
end Go.Proofs.Ytodcjokafjdhdaa.igm
