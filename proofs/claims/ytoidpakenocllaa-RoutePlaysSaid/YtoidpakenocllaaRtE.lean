/-
  Chapter 8 (route): a copy of routes, and all routes of a tree, by a walk of each text. Conditions: none but those typed.
-/
import Derived.Test.YtoidpakenocllaaRtC
namespace Go.Proofs.Ytoidpakenocllaa.rou
set_option linter.unusedVariables false
set_option linter.unusedSimpArgs false
open Go.ChangeShapes Go.WideShapes Go.ChangeAt Go.RowKit Go.IntWalk Go.Lib
def RowE (L : List Rt) (w : World) (x : Ending) (w' : World) : Prop := ∃ v', x = .returned v' ∧ w'.ownsRow w.heap.size 34 4 v' L.length (rws Rt.enc L) ∧ Only [] w w'
set_option maxRecDepth 100000 in
theorem clone1 (w : World) (base : Nat) (v : Value) (L : List Rt) (hv : w.ownsRow base 34 4 v L.length (rws Rt.enc L)) (hb : L.length ≤ 100000) : Calls Try.prog 35 #[v] w (RowE L w) := by
  rcases hv.2 with ⟨rfl, h0⟩ | ⟨g, cap, cur, rfl, hbg, hh, hnc, hcm, hcs, htk⟩
  · obtain rfl : L = [] := List.eq_nil_of_length_eq_zero h0
    have HE : Hid (w.ownsRow w.heap.size 34 4 (.slice none 0 0) ([] : List Rt).length (rws Rt.enc [])) := hid (World.ownsRow_nil _ _ _ _)
    have kn : ∀ w : World, Sem.run Try.prog (binOp BinOp.eql 28 (Value.slice none 0 0) (Value.slice none 0 0)) w = Result.ok (Value.bool true) w := fun _ => by kernel_rfl
    go_enter Try.func35, Try.ntmps35
    go_wp2_with fail
    go_ret
    exact ⟨_, rfl, HE.out, Only.refl _ _⟩
  · obtain ⟨A, c, ev, _, _, _, hr, _, _⟩ := RdS.of_own hv (rws_one enc_one _)
    injection ev with e1 e2 e3
    subst e1
    obtain ⟨W0, hW0⟩ : ∃ W0, w.alloc (.cells #[] 34) = W0 := ⟨_, rfl⟩
    have Q0 : Hid (Only [] w W0) := hid (by rw [← hW0]; exact (Only.refl [] w).alloc _)
    have HR := hid (hr.only_nil Q0.out)
    have HE : Hid (W0.ownsRow w.heap.size 34 4 (.slice (some ⟨w.heap.size, 0, none⟩) 0 0) 0 []) := hid ⟨by simp, .inr ⟨w.heap.size, 0, #[], rfl, Nat.le_refl _, by rw [← hW0]; exact Ob.new _ _ _, Nat.le_refl _, by unfold maxLen; omega, by simp, by simp⟩⟩
    clear hr hv hh hcs htk
    obtain ⟨n, hn⟩ : ∃ n, L.length = n := ⟨_, rfl⟩
    have HN := hid hn
    rw [hn] at HR hb ⊢
    clear hn
    rw [e3]
    have kn : ∀ w : World, Sem.run Try.prog (binOp BinOp.eql 28 (Value.slice (some ⟨g, 0, none⟩) n c) (Value.slice none 0 0)) w = Result.ok (Value.bool false) w := fun _ => by kernel_rfl
    go_enter Try.func35, Try.ntmps35
    go_wp2_with (at_builtin; refine wpList_appS _ rfl (.tmp 5) (.tmp 6) _ rfl elemS w.heap.size (.slice (some ⟨w.heap.size, 0, none⟩) 0 0) 0 [] rfl HE.out (some ⟨g, 0, none⟩) n c (rws Rt.enc L) rfl HR.out (by intro e; cases e) (.inr ⟨_, _, rfl⟩) (by omega) (by unfold maxLen; omega) Q0.out.size ?_)
    intro v7 w7 hv7 hg7 hb7
    have HV7 : Hid (w7.ownsRow w.heap.size 34 4 v7 L.length (rws Rt.enc L)) := hid (by rw [HN.out]; simpa using hv7)
    have Q7 : Hid (Only [] w w7) := hid (Q0.out.of_grown hg7 (fun j hj => .inr (own_lt HE.out j hj).1))
    clear hv7 hg7 hb7
    go_wp2_with fail
    go_ret
    exact ⟨_, rfl, HV7.out, Q7.out⟩
set_option maxRecDepth 100000 in
set_option maxHeartbeats 4000000 in
theorem below1 (base : Nat) : ∀ (t : Tr) (w : World), t.okm base w → t.all.length ≤ 1000 → Calls Try.prog 26 #[t.ptr] w (RowE t.all w) := by
  intro t
  induction t with
  | nil =>
    intro w hm hl
    have HE : Hid (w.ownsRow w.heap.size 34 4 (.slice none 0 0) (Tr.all .nil).length (rws Rt.enc (Tr.all .nil))) := hid (World.ownsRow_nil _ _ _ _)
    rw [show Tr.ptr Tr.nil = Value.pointer none from rfl]
    go_enter Try.func26, Try.ntmps26
    go_wp2_with fail
    go_ret
    exact ⟨_, rfl, HE.out, Only.refl _ _⟩
  | nd nb v L l rr ihl ihr =>
    intro w hm hl
    have IHL := hid ihl; have IHR := hid ihr; clear ihl ihr
    have HL3 : Hid (L.length + l.all.length + rr.all.length ≤ 1000) := hid (by simpa only [Tr.all, List.length_append] using hl)
    have HM := hid hm
    have HOb := hid hm.2.1
    have HLT : Hid (nb < w.heap.size) := hid hm.2.1.lt
    obtain ⟨A, c, ev, _, _, _, _, _, _⟩ := RdS.of_own hm.2.2.1 (rws_one enc_one _)
    clear hm hl
    rw [show Tr.ptr (Tr.nd nb v L l rr) = Value.pointer (some ⟨nb, 0, none⟩) from rfl]
    rw [ev] at HOb
    have HEV := hid ev; clear ev
    go_enter Try.func26, Try.ntmps26
    go_wp2_with fail
    refine wp_region_noPanic ?_
    refine rgn.regionT (R := Below w.heap.size) (by kernel_rfl) (Below.refl _) (fun _ _ _ => Below.trans) (fun _ _ _ _ _ h => h) (.y 0 (.y 1 (.y 2 (.y 3 (.y 5 (.y 6 (.y 7 (.y 8 (.y 9 (.y 12 (.y 13 (.y 14 (.y 15 (.y 16 (.e 4 (.e 10 (.e 11 (.e 17 (.e 18 (.e 19 .z)))))))))))))))))))) (by kernel_rfl) (fun W hWd => ?_)
    have HWd := hid hWd; clear hWd
    have q8 : Only [] w W := Only.eq_drew (Only.refl [] _) HWd.out
    have Q := hid q8; have HMW := hid (Tr.okm_nil HM.out q8); have HO := hid (HOb.out.only q8 (by simp))
    clear q8 HWd
    refine rgn.Walk.ys (v := ?_) rfl rfl rfl ?_ ?_
    rotate_left 1
    · intro W' hW'
      go_simp
      try with_reducible rfl
    try simp only [Act.put, List.setIfInBounds_toArray, List.set_cons_zero, List.set_cons_succ]
    refine rgn.Walk.ys (v := ?_) rfl rfl rfl ?_ ?_
    rotate_left 1
    · intro W' hW'
      go_simp
      try with_reducible rfl
    try simp only [Act.put, List.setIfInBounds_toArray, List.set_cons_zero, List.set_cons_succ]
    refine rgn.Walk.ys (v := ?_) rfl rfl rfl ?_ ?_
    rotate_left 1
    · intro W' hW'
      go_simp
      try with_reducible rfl
    try simp only [Act.put, List.setIfInBounds_toArray, List.set_cons_zero, List.set_cons_succ]
    refine rgn.Walk.ys (v := ?_) rfl rfl rfl ?_ ?_
    rotate_left 1
    · intro W' hW'
      have q0 := (HO.out.below hW' HLT.out).cell 2
      go_simp
      try with_reducible rfl
    try simp only [Act.put, List.setIfInBounds_toArray, List.set_cons_zero, List.set_cons_succ]
    refine rgn.Walk.ys (v := ?_) rfl rfl rfl ?_ ?_
    rotate_left 1
    · intro W' hW'
      go_simp
      try with_reducible rfl
    try simp only [Act.put, List.setIfInBounds_toArray, List.set_cons_zero, List.set_cons_succ]
    refine rgn.Walk.ys (v := ?_) rfl rfl rfl ?_ ?_
    rotate_left 1
    · intro W' hW'
      go_simp
      try with_reducible rfl
    try simp only [Act.put, List.setIfInBounds_toArray, List.set_cons_zero, List.set_cons_succ]
    refine rgn.Walk.ys (v := ?_) rfl rfl rfl ?_ ?_
    rotate_left 1
    · intro W' hW'
      go_simp
      try with_reducible rfl
    try simp only [Act.put, List.setIfInBounds_toArray, List.set_cons_zero, List.set_cons_succ]
    refine rgn.Walk.ys (v := ?_) rfl rfl rfl ?_ ?_
    rotate_left 1
    · intro W' hW'
      go_simp
      try with_reducible rfl
    try simp only [Act.put, List.setIfInBounds_toArray, List.set_cons_zero, List.set_cons_succ]
    refine rgn.Walk.ys (v := ?_) rfl rfl rfl ?_ ?_
    rotate_left 1
    · intro W' hW'
      have q0 := (HO.out.below hW' HLT.out).cell 0
      go_simp
      try with_reducible rfl
    try simp only [Act.put, List.setIfInBounds_toArray, List.set_cons_zero, List.set_cons_succ]
    refine rgn.Walk.ys (v := ?_) rfl rfl rfl ?_ ?_
    rotate_left 1
    · intro W' hW'
      go_simp
      try with_reducible rfl
    try simp only [Act.put, List.setIfInBounds_toArray, List.set_cons_zero, List.set_cons_succ]
    refine rgn.Walk.ys (v := ?_) rfl rfl rfl ?_ ?_
    rotate_left 1
    · intro W' hW'
      go_simp
      try with_reducible rfl
    try simp only [Act.put, List.setIfInBounds_toArray, List.set_cons_zero, List.set_cons_succ]
    refine rgn.Walk.ys (v := ?_) rfl rfl rfl ?_ ?_
    rotate_left 1
    · intro W' hW'
      go_simp
      try with_reducible rfl
    try simp only [Act.put, List.setIfInBounds_toArray, List.set_cons_zero, List.set_cons_succ]
    refine rgn.Walk.ys (v := ?_) rfl rfl rfl ?_ ?_
    rotate_left 1
    · intro W' hW'
      go_simp
      try with_reducible rfl
    try simp only [Act.put, List.setIfInBounds_toArray, List.set_cons_zero, List.set_cons_succ]
    refine rgn.Walk.ys (v := ?_) rfl rfl rfl ?_ ?_
    rotate_left 1
    · intro W' hW'
      have q0 := (HO.out.below hW' HLT.out).cell 1
      go_simp
      try with_reducible rfl
    try simp only [Act.put, List.setIfInBounds_toArray, List.set_cons_zero, List.set_cons_succ]
    refine rgn.Walk.es ?_
    refine rgn.stepE rfl rfl (fun K hK => ?_)
    go_simp
    refine (clone1 W base (.slice A L.length c) L (by rw [← HEV.out]; exact HMW.out.2.2.1) (by have := HL3.out; omega)).mono ?_
    rintro x w4 ⟨v4, rfl, hv4, o4⟩
    refine hK _ _ (Only.below (Below.refl _ _) o4 Q.out.size (by simp)) ?_
    clear hK K
    have Q4 := hid (Q.out.trans o4); have HM4 := hid (Tr.okm_nil HMW.out o4); have V4 := hid (own_mono hv4 Q.out.size)
    clear hv4 o4
    try simp only [Act.put, List.setIfInBounds_toArray, List.set_cons_zero, List.set_cons_succ]
    refine rgn.Walk.es ?_
    refine rgn.stepE rfl rfl (fun K hK => ?_)
    go_simp
    refine (IHL.out w4 HM4.out.2.2.2.1 (by have := HL3.out; omega)).mono ?_
    rintro x w10 ⟨v10, rfl, hv10, o10⟩
    obtain ⟨A10, c10, e10, _, _, z10, r10, _, f10⟩ := RdS.of_own hv10 (rws_one enc_one _)
    subst e10
    refine hK _ _ (Only.below (Below.refl _ _) o10 Q4.out.size (by simp)) ?_
    clear hK K
    have Q10 := hid (Q4.out.trans o10); have HM10 := hid (Tr.okm_nil HM4.out o10); have V10 := hid (own_only_nil V4.out o10); have R10 := hid r10; have Z10 := hid z10; have F10 := hid f10
    clear hv10 o10 r10 z10 f10
    try simp only [Act.put, List.setIfInBounds_toArray, List.set_cons_zero, List.set_cons_succ]
    refine rgn.Walk.es ?_
    refine rgn.stepE rfl rfl (fun K hK => ?_)
    refine opAppS _ rfl (.tmp 9) (.tmp 15) _ rfl elemS w.heap.size v4 L.length (rws Rt.enc L) rfl V10.out A10 l.all.length c10 (rws Rt.enc l.all) rfl R10.out Z10.out (F10.out.imp id (fun ⟨b, h⟩ => ⟨b, 0, h⟩)) (by have := HL3.out; omega) (by have := HL3.out; unfold maxLen; omega) Q10.out.size (fun v11 w11 hv11 hg11 hb11 => ?_)
    refine hK _ _ (Below.grown (Below.refl _ _) hg11 Q10.out.size (fun j hj => (own_lt V10.out j hj).1)) ?_
    clear hK K
    have o11 : Only [] w w11 := Q10.out.of_grown hg11 (fun j hj => .inr (own_lt V10.out j hj).1)
    have Q11 := hid o11; have HM11 := hid (Tr.okm_nil HM.out o11); have V11 := hid hv11
    clear hv11 hg11 hb11 o11
    try simp only [Act.put, List.setIfInBounds_toArray, List.set_cons_zero, List.set_cons_succ]
    refine rgn.Walk.es ?_
    refine rgn.stepE rfl rfl (fun K hK => ?_)
    go_simp
    refine (IHR.out w11 HM11.out.2.2.2.2 (by have := HL3.out; omega)).mono ?_
    rintro x w17 ⟨v17, rfl, hv17, o17⟩
    obtain ⟨A17, c17, e17, _, _, z17, r17, _, f17⟩ := RdS.of_own hv17 (rws_one enc_one _)
    subst e17
    refine hK _ _ (Only.below (Below.refl _ _) o17 Q11.out.size (by simp)) ?_
    clear hK K
    have Q17 := hid (Q11.out.trans o17); have V17 := hid (own_only_nil V11.out o17); have R17 := hid r17; have Z17 := hid z17; have F17 := hid f17
    clear hv17 o17 r17 z17 f17
    try simp only [Act.put, List.setIfInBounds_toArray, List.set_cons_zero, List.set_cons_succ]
    refine rgn.Walk.es ?_
    refine rgn.stepE rfl rfl (fun K hK => ?_)
    refine opAppS _ rfl (.tmp 16) (.tmp 22) _ rfl elemS w.heap.size v11 (L.length + l.all.length) (rws Rt.enc L ++ rws Rt.enc l.all) rfl V17.out A17 rr.all.length c17 (rws Rt.enc rr.all) rfl R17.out Z17.out (F17.out.imp id (fun ⟨b, h⟩ => ⟨b, 0, h⟩)) (by have := HL3.out; omega) (by have := HL3.out; unfold maxLen; omega) Q17.out.size (fun v18 w18 hv18 hg18 hb18 => ?_)
    refine hK _ _ (Below.grown (Below.refl _ _) hg18 Q17.out.size (fun j hj => (own_lt V17.out j hj).1)) ?_
    clear hK K
    have Q18 : Hid (Only [] w w18) := hid (Q17.out.of_grown hg18 (fun j hj => .inr (own_lt V17.out j hj).1))
    have V18 := hid hv18
    clear hv18 hg18 hb18
    try simp only [Act.put, List.setIfInBounds_toArray, List.set_cons_zero, List.set_cons_succ]
    refine rgn.Walk.es ?_
    refine rgn.stepE rfl rfl (fun K hK => ?_)
    go_simp
    refine hK _ _ ((Below.refl _) _) ?_
    clear hK K
    try simp only [Act.put, List.setIfInBounds_toArray, List.set_cons_zero, List.set_cons_succ]
    refine rgn.Walk.zs (NoPanic.normal ?_)
    go_wp2_with fail
    go_ret
    refine ⟨v18, rfl, ?_, Q18.out⟩
    have h9 := V18.out
    rw [← rws_app, ← rws_app, ← List.length_append, ← List.length_append] at h9
    exact h9
end Go.Proofs.Ytoidpakenocllaa.rou
