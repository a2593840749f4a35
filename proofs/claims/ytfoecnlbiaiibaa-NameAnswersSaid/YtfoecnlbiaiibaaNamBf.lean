/-
  Chapter 21 (name): lists of records and messages that are the same, by a walk of each text. Conditions: none but those typed.
-/
import Derived.Test.YtfoecnlbiaiibaaNamBe
import Derived.Test.YtfoecnlbiaiibaaHlp21
namespace Go.Proofs.Ytfoecnlbiaiibaa.nam
set_option linter.unusedVariables false
set_option linter.unusedSimpArgs false
open Go.ChangeShapes Go.WideShapes Go.ChangeAt Go.RowKit Go.IntWalk Go.Lib
/-- Data that can be read. -/
def RdL (w : World) (L : List Rc) : Prop := ∀ r ∈ L, Rd .u8 w r.A r.n r.d
theorem RdL.only_nil {w w' : World} {L : List Rc} (h : RdL w L) (o : Only [] w w') : RdL w' L := fun r hr => (h r hr).only_nil o
theorem RdL.of_dat {w : World} {L : List Rc} (h : DatR w L) : RdL w L := fun r hr => (h r hr).1.1
theorem RdL.of_dbs {w : World} {L : List Rc} (h : DBs w L) : RdL w L := fun r hr => by
  obtain ⟨A, c, e, _, _, h3, _⟩ := h r hr
  injection e with e1 e2 _
  rw [e1, e2]
  exact h3
theorem key_at {M N : List Rc} (h : M.map Rc.key = N.map Rc.key) (k : Nat) (hk : k < M.length) : (M.getD k rc0).key = (N.getD k rc0).key := by
  have hl : M.length = N.length := by have := congrArg List.length h; simpa using this
  have h1 := congrArg (fun l => l[k]?) h
  simp only [List.getElem?_map] at h1
  rw [List.getElem?_eq_getElem hk, List.getElem?_eq_getElem (by omega)] at h1
  simp only [Option.map_some, Option.some.injEq] at h1
  rw [List.getD_eq_getElem?_getD, List.getD_eq_getElem?_getD, List.getElem?_eq_getElem hk, List.getElem?_eq_getElem (by omega)]
  exact h1
set_option maxRecDepth 100000 in
set_option maxHeartbeats 8000000 in
theorem recordsL (w : World) (A1 A2 : Option Addr) (c1 c2 n : Nat) (M N : List Rc) (e1 : M.length = n) (h : M.map Rc.key = N.map Rc.key) (r1 : RowR w A1 M) (r2 : RowR w A2 N) (d1 : RdL w M) (d2 : RdL w N) (hb : ∀ r ∈ M, r.n ≤ 140737488351232) (hn : n ≤ 100000) :
    Calls Try.prog 42 #[.slice A1 n c1, .slice A2 n c2] w fun x w' => x = .returned (.bool true) ∧ Only [] w w' := by
  have e2 : N.length = n := by have := congrArg List.length h; simp at this; omega
  have E1 := hid e1; have E2 := hid e2; have HKy := hid h; have R1 := hid r1; have R2 := hid r2; have D1 := hid d1; have D2 := hid d2; have HBn := hid hb
  clear e1 e2 h r1 r2 d1 d2 hb
  go_enter Try.func42, Try.ntmps42
  go_wp2_with fail
  go_loopw [5] (fun i wr => ∃ k : Nat, i = .int .i64 k ∧ k ≤ n ∧ Hid (Only [] w wr)) (fun i _ => n - (RowKit.intOf i).toNat)
  case atStart => exact ⟨0, rfl, by omega, hid (Only.refl [] w)⟩
  case round =>
    obtain ⟨k, rfl, hk, HB⟩ := hrel
    by_cases hlt : k < n
    · have hky := key_at HKy.out k (by rw [E1.out]; exact hlt)
      have HX0 := D1.out _ (rc_mem M k (by rw [E1.out]; exact hlt))
      have HY0 := D2.out _ (rc_mem N k (by rw [E2.out]; exact hlt))
      have hbd := HBn.out _ (rc_mem M k (by rw [E1.out]; exact hlt))
      obtain ⟨b, off, rfl, hb, d0, d1, d2, d3, d4⟩ := (R1.out.only_nil HB.out).at k (by rw [E1.out]; exact hlt)
      obtain ⟨b2, off2, rfl, hb2, f0, f1, f2, f3, f4⟩ := (R2.out.only_nil HB.out).at k (by rw [E2.out]; exact hlt)
      generalize M.getD k rc0 = r at *
      generalize N.getD k rc0 = r2 at *
      obtain ⟨s, ty, cl, ttl, xA, xn, xc, d⟩ := r
      obtain ⟨s2, ty2, cl2, ttl2, yA, yn, yc, e⟩ := r2
      simp only [Rc.key, Prod.mk.injEq] at hky
      obtain ⟨rfl, rfl, rfl, rfl, rfl⟩ := hky
      simp only at d0 d1 d2 d3 d4 f0 f1 f2 f3 f4 HX0 HY0 hbd
      obtain rfl : xn = yn := by rw [← HX0.len, HY0.len]
      have HX := hid HX0; have HY := hid HY0; have HBd := hid hbd
      have HSS : Hid ((s.toList == s.toList) = true) := hid (by simp)
      clear HX0 HY0 hbd
      go_wp2_with fail
      refine wp_region_noPanic ?_
      refine rgn.regionT (R := Only []) (by kernel_rfl) (Only.refl []) (fun _ _ _ => Only.trans) (fun _ _ _ _ _ h => h) (.y 0 (.y 1 (.y 2 (.y 3 (.y 4 (.y 5 (.y 6 (.y 7 (.y 8 (.y 9 (.y 10 (.y 11 (.y 12 (.y 13 (.y 14 (.y 15 (.y 16 (.y 17 (.y 18 (.y 19 (.y 20 (.y 21 (.y 22 (.y 23 (.y 24 (.y 25 (.y 26 (.y 27 (.y 28 (.y 29 (.y 30 (.y 31 (.y 32 (.y 33 (.y 34 (.y 35 (.y 36 (.y 37 (.y 38 (.y 39 (.y 40 (.y 41 (.y 42 (.y 43 (.y 44 (.y 45 (.y 46 (.y 47 (.y 48 (.y 49 (.y 50 (.y 51 (.y 52 (.y 53 (.y 54 (.y 55 (.y 56 (.y 57 (.y 58 (.y 59 (.y 60 (.e 61 (.y 62 (.y 63 .z)))))))))))))))))))))))))))))))))))))))))))))))))))))))))))))))) (by kernel_rfl) (fun W hWd => ?_)
      have HWd := hid hWd; clear hWd
      have QW : Hid (Only [] w W) := hid (HB.out.trans (Only.eq_drew (Only.refl [] _) HWd.out))
      have m0 := (show W.cell? _ = wr.cell? _ from by rw [HWd.out]; rfl).trans d0
      have m1 := (show W.cell? _ = wr.cell? _ from by rw [HWd.out]; rfl).trans d1
      have m2 := (show W.cell? _ = wr.cell? _ from by rw [HWd.out]; rfl).trans d2
      have m3 := (show W.cell? _ = wr.cell? _ from by rw [HWd.out]; rfl).trans d3
      have m4 := (show W.cell? _ = wr.cell? _ from by rw [HWd.out]; rfl).trans d4
      have k0 := (show W.cell? _ = wr.cell? _ from by rw [HWd.out]; rfl).trans f0
      have k1 := (show W.cell? _ = wr.cell? _ from by rw [HWd.out]; rfl).trans f1
      have k2 := (show W.cell? _ = wr.cell? _ from by rw [HWd.out]; rfl).trans f2
      have k3 := (show W.cell? _ = wr.cell? _ from by rw [HWd.out]; rfl).trans f3
      have k4 := (show W.cell? _ = wr.cell? _ from by rw [HWd.out]; rfl).trans f4
      clear HWd HB d0 d1 d2 d3 d4 f0 f1 f2 f3 f4
      refine rgn.Walk.ys (v := ?_) rfl rfl rfl ?_ ?_
      rotate_left 1
      · intro W' hW'
        go_simp
        try with_reducible rfl
      try simp only [Act.put, List.setIfInBounds_toArray, List.set_cons_zero, List.set_cons_succ]
      refine rgn.Walk.ys (v := ?_) rfl rfl rfl ?_ ?_
      rotate_left 1
      · intro W' hW'
        go_simp
        try with_reducible rfl
      try simp only [Act.put, List.setIfInBounds_toArray, List.set_cons_zero, List.set_cons_succ]
      refine rgn.Walk.ys (v := ?_) rfl rfl rfl ?_ ?_
      rotate_left 1
      · intro W' hW'
        go_simp
        try with_reducible rfl
      try simp only [Act.put, List.setIfInBounds_toArray, List.set_cons_zero, List.set_cons_succ]
      refine rgn.Walk.ys (v := ?_) rfl rfl rfl ?_ ?_
      rotate_left 1
      · intro W' hW'
        go_simp
        try with_reducible rfl
      try simp only [Act.put, List.setIfInBounds_toArray, List.set_cons_zero, List.set_cons_succ]
      refine rgn.Walk.ys (v := ?_) rfl rfl rfl ?_ ?_
      rotate_left 1
      · intro W' hW'
        have q0 := hW'.keep m0
        go_simp
        try with_reducible rfl
      try simp only [Act.put, List.setIfInBounds_toArray, List.set_cons_zero, List.set_cons_succ]
      refine rgn.Walk.ys (v := ?_) rfl rfl rfl ?_ ?_
      rotate_left 1
      · intro W' hW'
        go_simp
        try with_reducible rfl
      try simp only [Act.put, List.setIfInBounds_toArray, List.set_cons_zero, List.set_cons_succ]
      refine rgn.Walk.ys (v := ?_) rfl rfl rfl ?_ ?_
      rotate_left 1
      · intro W' hW'
        go_simp
        try with_reducible rfl
      try simp only [Act.put, List.setIfInBounds_toArray, List.set_cons_zero, List.set_cons_succ]
      refine rgn.Walk.ys (v := ?_) rfl rfl rfl ?_ ?_
      rotate_left 1
      · intro W' hW'
        go_simp
        try with_reducible rfl
      try simp only [Act.put, List.setIfInBounds_toArray, List.set_cons_zero, List.set_cons_succ]
      refine rgn.Walk.ys (v := ?_) rfl rfl rfl ?_ ?_
      rotate_left 1
      · intro W' hW'
        go_simp
        try with_reducible rfl
      try simp only [Act.put, List.setIfInBounds_toArray, List.set_cons_zero, List.set_cons_succ]
      refine rgn.Walk.ys (v := ?_) rfl rfl rfl ?_ ?_
      rotate_left 1
      · intro W' hW'
        have q0 := hW'.keep k0
        go_simp
        try with_reducible rfl
      try simp only [Act.put, List.setIfInBounds_toArray, List.set_cons_zero, List.set_cons_succ]
      refine rgn.Walk.ys (v := ?_) rfl rfl rfl ?_ ?_
      rotate_left 1
      · intro W' hW'
        have qs := HSS.out
        go_simp
        try with_reducible rfl
      try simp only [Act.put, List.setIfInBounds_toArray, List.set_cons_zero, List.set_cons_succ]
      refine rgn.Walk.ys (v := ?_) rfl rfl rfl ?_ ?_
      rotate_left 1
      · intro W' hW'
        go_simp
        try with_reducible rfl
      try simp only [Act.put, List.setIfInBounds_toArray, List.set_cons_zero, List.set_cons_succ]
      refine rgn.Walk.ys (v := ?_) rfl rfl rfl ?_ ?_
      rotate_left 1
      · intro W' hW'
        go_simp
        try with_reducible rfl
      try simp only [Act.put, List.setIfInBounds_toArray, List.set_cons_zero, List.set_cons_succ]
      refine rgn.Walk.ys (v := ?_) rfl rfl rfl ?_ ?_
      rotate_left 1
      · intro W' hW'
        go_simp
        try with_reducible rfl
      try simp only [Act.put, List.setIfInBounds_toArray, List.set_cons_zero, List.set_cons_succ]
      refine rgn.Walk.ys (v := ?_) rfl rfl rfl ?_ ?_
      rotate_left 1
      · intro W' hW'
        go_simp
        try with_reducible rfl
      try simp only [Act.put, List.setIfInBounds_toArray, List.set_cons_zero, List.set_cons_succ]
      refine rgn.Walk.ys (v := ?_) rfl rfl rfl ?_ ?_
      rotate_left 1
      · intro W' hW'
        go_simp
        try with_reducible rfl
      try simp only [Act.put, List.setIfInBounds_toArray, List.set_cons_zero, List.set_cons_succ]
      refine rgn.Walk.ys (v := ?_) rfl rfl rfl ?_ ?_
      rotate_left 1
      · intro W' hW'
        have q0 := hW'.keep m1
        go_simp
        try with_reducible rfl
      try simp only [Act.put, List.setIfInBounds_toArray, List.set_cons_zero, List.set_cons_succ]
      refine rgn.Walk.ys (v := ?_) rfl rfl rfl ?_ ?_
      rotate_left 1
      · intro W' hW'
        go_simp
        try with_reducible rfl
      try simp only [Act.put, List.setIfInBounds_toArray, List.set_cons_zero, List.set_cons_succ]
      refine rgn.Walk.ys (v := ?_) rfl rfl rfl ?_ ?_
      rotate_left 1
      · intro W' hW'
        go_simp
        try with_reducible rfl
      try simp only [Act.put, List.setIfInBounds_toArray, List.set_cons_zero, List.set_cons_succ]
      refine rgn.Walk.ys (v := ?_) rfl rfl rfl ?_ ?_
      rotate_left 1
      · intro W' hW'
        go_simp
        try with_reducible rfl
      try simp only [Act.put, List.setIfInBounds_toArray, List.set_cons_zero, List.set_cons_succ]
      refine rgn.Walk.ys (v := ?_) rfl rfl rfl ?_ ?_
      rotate_left 1
      · intro W' hW'
        go_simp
        try with_reducible rfl
      try simp only [Act.put, List.setIfInBounds_toArray, List.set_cons_zero, List.set_cons_succ]
      refine rgn.Walk.ys (v := ?_) rfl rfl rfl ?_ ?_
      rotate_left 1
      · intro W' hW'
        have q0 := hW'.keep k1
        go_simp
        try with_reducible rfl
      try simp only [Act.put, List.setIfInBounds_toArray, List.set_cons_zero, List.set_cons_succ]
      refine rgn.Walk.ys (v := ?_) rfl rfl rfl ?_ ?_
      rotate_left 1
      · intro W' hW'
        go_simp
        try with_reducible rfl
      try simp only [Act.put, List.setIfInBounds_toArray, List.set_cons_zero, List.set_cons_succ]
      refine rgn.Walk.ys (v := ?_) rfl rfl rfl ?_ ?_
      rotate_left 1
      · intro W' hW'
        go_simp
        try with_reducible rfl
      try simp only [Act.put, List.setIfInBounds_toArray, List.set_cons_zero, List.set_cons_succ]
      refine rgn.Walk.ys (v := ?_) rfl rfl rfl ?_ ?_
      rotate_left 1
      · intro W' hW'
        go_simp
        try with_reducible rfl
      try simp only [Act.put, List.setIfInBounds_toArray, List.set_cons_zero, List.set_cons_succ]
      refine rgn.Walk.ys (v := ?_) rfl rfl rfl ?_ ?_
      rotate_left 1
      · intro W' hW'
        go_simp
        try with_reducible rfl
      try simp only [Act.put, List.setIfInBounds_toArray, List.set_cons_zero, List.set_cons_succ]
      refine rgn.Walk.ys (v := ?_) rfl rfl rfl ?_ ?_
      rotate_left 1
      · intro W' hW'
        go_simp
        try with_reducible rfl
      try simp only [Act.put, List.setIfInBounds_toArray, List.set_cons_zero, List.set_cons_succ]
      refine rgn.Walk.ys (v := ?_) rfl rfl rfl ?_ ?_
      rotate_left 1
      · intro W' hW'
        go_simp
        try with_reducible rfl
      try simp only [Act.put, List.setIfInBounds_toArray, List.set_cons_zero, List.set_cons_succ]
      refine rgn.Walk.ys (v := ?_) rfl rfl rfl ?_ ?_
      rotate_left 1
      · intro W' hW'
        go_simp
        try with_reducible rfl
      try simp only [Act.put, List.setIfInBounds_toArray, List.set_cons_zero, List.set_cons_succ]
      refine rgn.Walk.ys (v := ?_) rfl rfl rfl ?_ ?_
      rotate_left 1
      · intro W' hW'
        have q0 := hW'.keep m2
        go_simp
        try with_reducible rfl
      try simp only [Act.put, List.setIfInBounds_toArray, List.set_cons_zero, List.set_cons_succ]
      refine rgn.Walk.ys (v := ?_) rfl rfl rfl ?_ ?_
      rotate_left 1
      · intro W' hW'
        go_simp
        try with_reducible rfl
      try simp only [Act.put, List.setIfInBounds_toArray, List.set_cons_zero, List.set_cons_succ]
      refine rgn.Walk.ys (v := ?_) rfl rfl rfl ?_ ?_
      rotate_left 1
      · intro W' hW'
        go_simp
        try with_reducible rfl
      try simp only [Act.put, List.setIfInBounds_toArray, List.set_cons_zero, List.set_cons_succ]
      refine rgn.Walk.ys (v := ?_) rfl rfl rfl ?_ ?_
      rotate_left 1
      · intro W' hW'
        go_simp
        try with_reducible rfl
      try simp only [Act.put, List.setIfInBounds_toArray, List.set_cons_zero, List.set_cons_succ]
      refine rgn.Walk.ys (v := ?_) rfl rfl rfl ?_ ?_
      rotate_left 1
      · intro W' hW'
        go_simp
        try with_reducible rfl
      try simp only [Act.put, List.setIfInBounds_toArray, List.set_cons_zero, List.set_cons_succ]
      refine rgn.Walk.ys (v := ?_) rfl rfl rfl ?_ ?_
      rotate_left 1
      · intro W' hW'
        have q0 := hW'.keep k2
        go_simp
        try with_reducible rfl
      try simp only [Act.put, List.setIfInBounds_toArray, List.set_cons_zero, List.set_cons_succ]
      refine rgn.Walk.ys (v := ?_) rfl rfl rfl ?_ ?_
      rotate_left 1
      · intro W' hW'
        go_simp
        try with_reducible rfl
      try simp only [Act.put, List.setIfInBounds_toArray, List.set_cons_zero, List.set_cons_succ]
      refine rgn.Walk.ys (v := ?_) rfl rfl rfl ?_ ?_
      rotate_left 1
      · intro W' hW'
        go_simp
        try with_reducible rfl
      try simp only [Act.put, List.setIfInBounds_toArray, List.set_cons_zero, List.set_cons_succ]
      refine rgn.Walk.ys (v := ?_) rfl rfl rfl ?_ ?_
      rotate_left 1
      · intro W' hW'
        go_simp
        try with_reducible rfl
      try simp only [Act.put, List.setIfInBounds_toArray, List.set_cons_zero, List.set_cons_succ]
      refine rgn.Walk.ys (v := ?_) rfl rfl rfl ?_ ?_
      rotate_left 1
      · intro W' hW'
        go_simp
        try with_reducible rfl
      try simp only [Act.put, List.setIfInBounds_toArray, List.set_cons_zero, List.set_cons_succ]
      refine rgn.Walk.ys (v := ?_) rfl rfl rfl ?_ ?_
      rotate_left 1
      · intro W' hW'
        go_simp
        try with_reducible rfl
      try simp only [Act.put, List.setIfInBounds_toArray, List.set_cons_zero, List.set_cons_succ]
      refine rgn.Walk.ys (v := ?_) rfl rfl rfl ?_ ?_
      rotate_left 1
      · intro W' hW'
        go_simp
        try with_reducible rfl
      try simp only [Act.put, List.setIfInBounds_toArray, List.set_cons_zero, List.set_cons_succ]
      refine rgn.Walk.ys (v := ?_) rfl rfl rfl ?_ ?_
      rotate_left 1
      · intro W' hW'
        go_simp
        try with_reducible rfl
      try simp only [Act.put, List.setIfInBounds_toArray, List.set_cons_zero, List.set_cons_succ]
      refine rgn.Walk.ys (v := ?_) rfl rfl rfl ?_ ?_
      rotate_left 1
      · intro W' hW'
        have q0 := hW'.keep m3
        go_simp
        try with_reducible rfl
      try simp only [Act.put, List.setIfInBounds_toArray, List.set_cons_zero, List.set_cons_succ]
      refine rgn.Walk.ys (v := ?_) rfl rfl rfl ?_ ?_
      rotate_left 1
      · intro W' hW'
        go_simp
        try with_reducible rfl
      try simp only [Act.put, List.setIfInBounds_toArray, List.set_cons_zero, List.set_cons_succ]
      refine rgn.Walk.ys (v := ?_) rfl rfl rfl ?_ ?_
      rotate_left 1
      · intro W' hW'
        go_simp
        try with_reducible rfl
      try simp only [Act.put, List.setIfInBounds_toArray, List.set_cons_zero, List.set_cons_succ]
      refine rgn.Walk.ys (v := ?_) rfl rfl rfl ?_ ?_
      rotate_left 1
      · intro W' hW'
        go_simp
        try with_reducible rfl
      try simp only [Act.put, List.setIfInBounds_toArray, List.set_cons_zero, List.set_cons_succ]
      refine rgn.Walk.ys (v := ?_) rfl rfl rfl ?_ ?_
      rotate_left 1
      · intro W' hW'
        go_simp
        try with_reducible rfl
      try simp only [Act.put, List.setIfInBounds_toArray, List.set_cons_zero, List.set_cons_succ]
      refine rgn.Walk.ys (v := ?_) rfl rfl rfl ?_ ?_
      rotate_left 1
      · intro W' hW'
        have q0 := hW'.keep k3
        go_simp
        try with_reducible rfl
      try simp only [Act.put, List.setIfInBounds_toArray, List.set_cons_zero, List.set_cons_succ]
      refine rgn.Walk.ys (v := ?_) rfl rfl rfl ?_ ?_
      rotate_left 1
      · intro W' hW'
        go_simp
        try with_reducible rfl
      try simp only [Act.put, List.setIfInBounds_toArray, List.set_cons_zero, List.set_cons_succ]
      refine rgn.Walk.ys (v := ?_) rfl rfl rfl ?_ ?_
      rotate_left 1
      · intro W' hW'
        go_simp
        try with_reducible rfl
      try simp only [Act.put, List.setIfInBounds_toArray, List.set_cons_zero, List.set_cons_succ]
      refine rgn.Walk.ys (v := ?_) rfl rfl rfl ?_ ?_
      rotate_left 1
      · intro W' hW'
        go_simp
        try with_reducible rfl
      try simp only [Act.put, List.setIfInBounds_toArray, List.set_cons_zero, List.set_cons_succ]
      refine rgn.Walk.ys (v := ?_) rfl rfl rfl ?_ ?_
      rotate_left 1
      · intro W' hW'
        go_simp
        try with_reducible rfl
      try simp only [Act.put, List.setIfInBounds_toArray, List.set_cons_zero, List.set_cons_succ]
      refine rgn.Walk.ys (v := ?_) rfl rfl rfl ?_ ?_
      rotate_left 1
      · intro W' hW'
        go_simp
        try with_reducible rfl
      try simp only [Act.put, List.setIfInBounds_toArray, List.set_cons_zero, List.set_cons_succ]
      refine rgn.Walk.ys (v := ?_) rfl rfl rfl ?_ ?_
      rotate_left 1
      · intro W' hW'
        go_simp
        try with_reducible rfl
      try simp only [Act.put, List.setIfInBounds_toArray, List.set_cons_zero, List.set_cons_succ]
      refine rgn.Walk.ys (v := ?_) rfl rfl rfl ?_ ?_
      rotate_left 1
      · intro W' hW'
        go_simp
        try with_reducible rfl
      try simp only [Act.put, List.setIfInBounds_toArray, List.set_cons_zero, List.set_cons_succ]
      refine rgn.Walk.ys (v := ?_) rfl rfl rfl ?_ ?_
      rotate_left 1
      · intro W' hW'
        have q0 := hW'.keep m4
        go_simp
        try with_reducible rfl
      try simp only [Act.put, List.setIfInBounds_toArray, List.set_cons_zero, List.set_cons_succ]
      refine rgn.Walk.ys (v := ?_) rfl rfl rfl ?_ ?_
      rotate_left 1
      · intro W' hW'
        go_simp
        try with_reducible rfl
      try simp only [Act.put, List.setIfInBounds_toArray, List.set_cons_zero, List.set_cons_succ]
      refine rgn.Walk.ys (v := ?_) rfl rfl rfl ?_ ?_
      rotate_left 1
      · intro W' hW'
        go_simp
        try with_reducible rfl
      try simp only [Act.put, List.setIfInBounds_toArray, List.set_cons_zero, List.set_cons_succ]
      refine rgn.Walk.ys (v := ?_) rfl rfl rfl ?_ ?_
      rotate_left 1
      · intro W' hW'
        go_simp
        try with_reducible rfl
      try simp only [Act.put, List.setIfInBounds_toArray, List.set_cons_zero, List.set_cons_succ]
      refine rgn.Walk.ys (v := ?_) rfl rfl rfl ?_ ?_
      rotate_left 1
      · intro W' hW'
        go_simp
        try with_reducible rfl
      try simp only [Act.put, List.setIfInBounds_toArray, List.set_cons_zero, List.set_cons_succ]
      refine rgn.Walk.ys (v := ?_) rfl rfl rfl ?_ ?_
      rotate_left 1
      · intro W' hW'
        have q0 := hW'.keep k4
        go_simp
        try with_reducible rfl
      try simp only [Act.put, List.setIfInBounds_toArray, List.set_cons_zero, List.set_cons_succ]
      refine rgn.Walk.es ?_
      refine rgn.stepE rfl rfl (fun K hK => ?_)
      go_simp
      refine (hlp.same _ xA yA xn xn xc yc d d (HX.out.only_nil QW.out) (HY.out.only_nil QW.out) (by have := HBd.out; omega) (by have := HBd.out; omega)).mono ?_
      rintro x w4 ⟨rfl, nq, rfl⟩
      rw [show decide (d = d) = true from decide_eq_true rfl]
      refine hK _ _ ((Only.refl [] _).drewN nq) ?_
      clear hK K
      have QW := hid (QW.out.drewN nq)
      try simp only [Act.put, List.setIfInBounds_toArray, List.set_cons_zero, List.set_cons_succ]
      refine rgn.Walk.ys (v := ?_) rfl rfl rfl ?_ ?_
      rotate_left 1
      · intro W' hW'
        go_simp
        try with_reducible rfl
      try simp only [Act.put, List.setIfInBounds_toArray, List.set_cons_zero, List.set_cons_succ]
      refine rgn.Walk.ys (v := ?_) rfl rfl rfl ?_ ?_
      rotate_left 1
      · intro W' hW'
        go_simp
        try with_reducible rfl
      try simp only [Act.put, List.setIfInBounds_toArray, List.set_cons_zero, List.set_cons_succ]
      refine rgn.Walk.zs (NoPanic.normal ?_)
      go_wp2_with fail
      go_roundw
      case rel => exact ⟨k + 1, by first | rfl | go_num, by omega, QW⟩
      case measure => simp [RowKit.intOf]; omega
    · go_wp2_with fail
      go_ret
      exact ⟨rfl, HB.out⟩
set_option maxHeartbeats 2000000 in
theorem messagesL (w : World) (id fl : Int) (A1 A2 A3 A4 : Option Addr) (c1 c2 c3 c4 n1 n2 : Nat) (M1 M2 N1 N2 : List Rc) (e1 : M1.length = n1) (e2 : M2.length = n2) (h1 : M1.map Rc.key = N1.map Rc.key) (h2 : M2.map Rc.key = N2.map Rc.key)
    (r1 : RowR w A1 M1) (r2 : RowR w A2 M2) (r3 : RowR w A3 N1) (r4 : RowR w A4 N2) (d1 : RdL w M1) (d2 : RdL w M2) (d3 : RdL w N1) (d4 : RdL w N2) (b1 : ∀ r ∈ M1, r.n ≤ 140737488351232) (b2 : ∀ r ∈ M2, r.n ≤ 140737488351232) (hn1 : n1 ≤ 100000) (hn2 : n2 ≤ 100000) :
    Calls Try.prog 20 #[.agg #[.int .i64 id, .int .i64 fl, .slice A1 n1 c1, .slice A2 n2 c2], .agg #[.int .i64 id, .int .i64 fl, .slice A3 n1 c3, .slice A4 n2 c4]] w fun x w' => x = .returned (.bool true) ∧ Only [] w w' := by
  obtain ⟨W1, hW1⟩ : ∃ W1, (w.alloc (.cells #[.int .i64 id, .int .i64 fl, .slice A1 n1 c1, .slice A2 n2 c2] 39)).alloc (.cells #[.int .i64 id, .int .i64 fl, .slice A3 n1 c3, .slice A4 n2 c4] 39) = W1 := ⟨_, rfl⟩
  have Q1 : Hid (Only [] w W1) := hid (by rw [← hW1]; exact ((Only.refl [] w).alloc _).alloc _)
  have O1 : Hid (Ob W1 w.heap.size 39 #[.int .i64 id, .int .i64 fl, .slice A1 n1 c1, .slice A2 n2 c2]) := hid (by rw [← hW1]; exact (Ob.new _ _ _).alloc _)
  have O2 : Hid (Ob W1 (w.heap.size + 1) 39 #[.int .i64 id, .int .i64 fl, .slice A3 n1 c3, .slice A4 n2 c4]) := hid (by rw [← hW1]; simpa using Ob.new (w.alloc (.cells #[.int .i64 id, .int .i64 fl, .slice A1 n1 c1, .slice A2 n2 c2] 39)) 39 #[.int .i64 id, .int .i64 fl, .slice A3 n1 c3, .slice A4 n2 c4])
  have HC1 := hid (recordsL W1 A1 A3 c1 c3 n1 M1 N1 e1 h1 (r1.only_nil Q1.out) (r3.only_nil Q1.out) (d1.only_nil Q1.out) (d3.only_nil Q1.out) b1 hn1)
  have HC2 := hid (fun W (o : Only [] w W) => recordsL W A2 A4 c2 c4 n2 M2 N2 e2 h2 (r2.only_nil o) (r4.only_nil o) (d2.only_nil o) (d4.only_nil o) b2 hn2)
  have p0 := O1.out.cell 0; have p1 := O1.out.cell 1; have p2 := O1.out.cell 2; have p3 := O1.out.cell 3
  have q0 := O2.out.cell 0; have q1 := O2.out.cell 1; have q2 := O2.out.cell 2; have q3 := O2.out.cell 3
  clear e1 e2 h1 h2 r1 r2 r3 r4 d1 d2 d3 d4 b1 b2
  go_enter Try.func20, Try.ntmps20
  go_wp2_with fail
  refine HC1.out.mono ?_
  rintro x w2 ⟨rfl, o2⟩
  have Q2 := hid (Q1.out.trans o2)
  have O1 := hid (O1.out.only o2 (by simp)); have O2 := hid (O2.out.only o2 (by simp))
  clear p0 p1 p2 p3 q0 q1 q2 q3 o2
  have p3 := O1.out.cell 3
  have q3 := O2.out.cell 3
  go_wp2_with fail
  refine (HC2.out w2 Q2.out).mono ?_
  rintro x w3 ⟨rfl, o3⟩
  have Q3 := hid (Q2.out.trans o3)
  clear o3
  go_wp2_with fail
  go_ret
  exact ⟨rfl, Q3.out⟩
end Go.Proofs.Ytfoecnlbiaiibaa.nam
