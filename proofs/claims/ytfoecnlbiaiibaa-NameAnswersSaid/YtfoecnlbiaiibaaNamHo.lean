/-
  Chapter 21 (name): is a message more than is looked at, by a walk of its text. Conditions: none but those typed.
-/
import Derived.Test.YtfoecnlbiaiibaaNamHn
namespace Go.Proofs.Ytfoecnlbiaiibaa.nam
set_option linter.unusedVariables false
set_option linter.unusedSimpArgs false
open Go.ChangeShapes Go.WideShapes Go.ChangeAt Go.RowKit Go.IntWalk Go.Lib
def HvE (n : Nat) (w : World) (x : Ending) (w' : World) : Prop := ∃ q, x = .returned (.bool q) ∧ Only [] w w' ∧ (q = false → n ≤ 3000)
set_option maxHeartbeats 4000000 in
theorem heavyL (w : World) (id fl : Int) (A1 A2 : Option Addr) (n1 n2 c1 c2 : Nat) (L1 L2 : List Rc) (e1 : L1.length = n1) (e2 : L2.length = n2) (r1 : RowR w A1 L1) (r2 : RowR w A2 L2) (d1 : DatR w L1) (d2 : DatR w L2) (h1 : n1 ≤ 140737488351232) (h2 : n2 ≤ 140737488351232) :
    Calls Try.prog 16 #[.agg #[.int .i64 id, .int .i64 fl, .slice A1 n1 c1, .slice A2 n2 c2]] w (HvE (n1 + n2) w) := by
  have E1 := hid e1; have E2 := hid e2; have R1 := hid r1; have R2 := hid r2; have D1 := hid d1; have D2 := hid d2
  obtain ⟨W0, hW0⟩ : ∃ W0, w.alloc (.cells #[.int .i64 id, .int .i64 fl, .slice A1 n1 c1, .slice A2 n2 c2] 39) = W0 := ⟨_, rfl⟩
  have C0 : Hid (Ob W0 w.heap.size 39 #[.int .i64 id, .int .i64 fl, .slice A1 n1 c1, .slice A2 n2 c2]) := hid (by rw [← hW0]; exact Ob.new _ _ _)
  have Q0 : Hid (Only [] w W0) := hid (by rw [← hW0]; exact (Only.refl [] w).alloc _)
  have k2 := C0.out.cell 2
  have k3 := C0.out.cell 3
  clear e1 e2 r1 r2 d1 d2
  go_enter Try.func16, Try.ntmps16
  go_wp2_with fail
  go_loopw [3, 4] (fun v3 vk wr => ∃ (z k : Nat), v3 = .int .i64 z ∧ vk = .int .i64 k ∧ Hid (Only [] W0 wr) ∧ n1 + n2 ≤ z ∧ z ≤ 300000000000000 ∧ k ≤ n1) (fun _ vk _ => n1 - (RowKit.intOf vk).toNat)
  case atStart => exact ⟨n1 + n2, 0, by first | rfl | (simp; done) | go_num, rfl, hid (Only.refl [] W0), by omega, by omega, by omega⟩
  case round =>
    obtain ⟨z, k, rfl, rfl, HB, hz1, hz2, hk⟩ := hrel
    have C2 : wr.cell? ⟨w.heap.size, 2, none⟩ = some (.slice A1 n1 c1) := (C0.out.only HB.out (by simp)).cell 2
    have C3 : wr.cell? ⟨w.heap.size, 3, none⟩ = some (.slice A2 n2 c2) := (C0.out.only HB.out (by simp)).cell 3
    by_cases hlt : k < n1
    · by_cases h3 : z ≤ 3000
      · obtain ⟨b, off, rfl, hb, d0, d1, d2, d3, d4⟩ := ((R1.out.only_nil Q0.out).only_nil HB.out).at k (by rw [E1.out]; exact hlt)
        have hs := (D1.out _ (rc_mem L1 k (by rw [E1.out]; exact hlt))).2
        have hn := (D1.out _ (rc_mem L1 k (by rw [E1.out]; exact hlt))).1.2.2.1
        generalize L1.getD k rc0 = r at *
        obtain ⟨s, ty, cl, ttl, rA, rn, rc, rd⟩ := r
        simp only at hs hn d0 d1 d2 d3 d4
        have hz3 : (z : Int) ≤ 3000 := by omega
        have hk1 : IntKind.i64.wrap ((z : Int) + (s.size : Int)) = (z : Int) + (s.size : Int) := i64_in _ (by omega)
        have hk2 : IntKind.i64.wrap ((z : Int) + (s.size : Int) + (rn : Int)) = (z : Int) + (s.size : Int) + (rn : Int) := i64_in _ (by omega)
        go_wp2_with fail
        refine wp_region_noPanic ?_
        refine rgn.regionT (R := Only []) (by kernel_rfl) (Only.refl []) (fun _ _ _ => Only.trans) (fun _ _ _ _ _ h => h) (.y 0 (.y 1 (.y 2 (.y 3 (.y 4 (.y 5 (.y 6 (.y 7 (.y 8 (.y 9 (.y 10 (.y 11 (.y 12 (.y 13 (.y 14 (.y 15 (.y 16 (.e 17 .z)))))))))))))))))) (by kernel_rfl) (fun W hWd => ?_)
        have HWd := hid hWd; clear hWd
        have HQ := hid (HB.out.trans (show Only [] wr W from by rw [HWd.out]; exact (Only.refl [] wr).drew))
        have m2 : W.cell? ⟨w.heap.size, 2, none⟩ = _ := (show W.cell? _ = wr.cell? _ from by rw [HWd.out]; rfl).trans C2
        have f0 := (show W.cell? _ = wr.cell? _ from by rw [HWd.out]; rfl).trans d0
        have f4 := (show W.cell? _ = wr.cell? _ from by rw [HWd.out]; rfl).trans d4
        clear HWd d0 d1 d2 d3 d4 HB C2 C3
        refine rgn.Walk.ys (v := ?_) rfl rfl rfl ?_ ?_
        rotate_left 1
        · intro W' hW'
          go_simp
          try with_reducible rfl
        try simp only [Act.put, List.setIfInBounds_toArray, List.set_cons_zero, List.set_cons_succ]
        refine rgn.Walk.ys (v := ?_) rfl rfl rfl ?_ ?_
        rotate_left 1
        · intro W' hW'
          go_simp
          try with_reducible rfl
        try simp only [Act.put, List.setIfInBounds_toArray, List.set_cons_zero, List.set_cons_succ]
        refine rgn.Walk.ys (v := ?_) rfl rfl rfl ?_ ?_
        rotate_left 1
        · intro W' hW'
          have q0 := hW'.keep m2
          go_simp
          try with_reducible rfl
        try simp only [Act.put, List.setIfInBounds_toArray, List.set_cons_zero, List.set_cons_succ]
        refine rgn.Walk.ys (v := ?_) rfl rfl rfl ?_ ?_
        rotate_left 1
        · intro W' hW'
          go_simp
          try with_reducible rfl
        try simp only [Act.put, List.setIfInBounds_toArray, List.set_cons_zero, List.set_cons_succ]
        refine rgn.Walk.ys (v := ?_) rfl rfl rfl ?_ ?_
        rotate_left 1
        · intro W' hW'
          go_simp
          try with_reducible rfl
        try simp only [Act.put, List.setIfInBounds_toArray, List.set_cons_zero, List.set_cons_succ]
        refine rgn.Walk.ys (v := ?_) rfl rfl rfl ?_ ?_
        rotate_left 1
        · intro W' hW'
          go_simp
          try with_reducible rfl
        try simp only [Act.put, List.setIfInBounds_toArray, List.set_cons_zero, List.set_cons_succ]
        refine rgn.Walk.ys (v := ?_) rfl rfl rfl ?_ ?_
        rotate_left 1
        · intro W' hW'
          have q0 := hW'.keep f0
          go_simp
          try with_reducible rfl
        try simp only [Act.put, List.setIfInBounds_toArray, List.set_cons_zero, List.set_cons_succ]
        refine rgn.Walk.ys (v := ?_) rfl rfl rfl ?_ ?_
        rotate_left 1
        · intro W' hW'
          go_simp
          try with_reducible rfl
        try simp only [Act.put, List.setIfInBounds_toArray, List.set_cons_zero, List.set_cons_succ]
        refine rgn.Walk.ys (v := ?_) rfl rfl rfl ?_ ?_
        rotate_left 1
        · intro W' hW'
          go_simp
          try with_reducible rfl
        try simp only [Act.put, List.setIfInBounds_toArray, List.set_cons_zero, List.set_cons_succ]
        refine rgn.Walk.ys (v := ?_) rfl rfl rfl ?_ ?_
        rotate_left 1
        · intro W' hW'
          go_simp
          try with_reducible rfl
        try simp only [Act.put, List.setIfInBounds_toArray, List.set_cons_zero, List.set_cons_succ]
        refine rgn.Walk.ys (v := ?_) rfl rfl rfl ?_ ?_
        rotate_left 1
        · intro W' hW'
          have q0 := hW'.keep m2
          go_simp
          try with_reducible rfl
        try simp only [Act.put, List.setIfInBounds_toArray, List.set_cons_zero, List.set_cons_succ]
        refine rgn.Walk.ys (v := ?_) rfl rfl rfl ?_ ?_
        rotate_left 1
        · intro W' hW'
          go_simp
          try with_reducible rfl
        try simp only [Act.put, List.setIfInBounds_toArray, List.set_cons_zero, List.set_cons_succ]
        refine rgn.Walk.ys (v := ?_) rfl rfl rfl ?_ ?_
        rotate_left 1
        · intro W' hW'
          go_simp
          try with_reducible rfl
        try simp only [Act.put, List.setIfInBounds_toArray, List.set_cons_zero, List.set_cons_succ]
        refine rgn.Walk.ys (v := ?_) rfl rfl rfl ?_ ?_
        rotate_left 1
        · intro W' hW'
          go_simp
          try with_reducible rfl
        try simp only [Act.put, List.setIfInBounds_toArray, List.set_cons_zero, List.set_cons_succ]
        refine rgn.Walk.ys (v := ?_) rfl rfl rfl ?_ ?_
        rotate_left 1
        · intro W' hW'
          have q0 := hW'.keep f4
          go_simp
          try with_reducible rfl
        try simp only [Act.put, List.setIfInBounds_toArray, List.set_cons_zero, List.set_cons_succ]
        refine rgn.Walk.ys (v := ?_) rfl rfl rfl ?_ ?_
        rotate_left 1
        · intro W' hW'
          go_simp
          try with_reducible rfl
        try simp only [Act.put, List.setIfInBounds_toArray, List.set_cons_zero, List.set_cons_succ]
        refine rgn.Walk.ys (v := ?_) rfl rfl rfl ?_ ?_
        rotate_left 1
        · intro W' hW'
          go_simp
          try with_reducible rfl
        try simp only [Act.put, List.setIfInBounds_toArray, List.set_cons_zero, List.set_cons_succ]
        refine rgn.Walk.es ?_
        refine rgn.stepE rfl rfl (fun K hK => ?_)
        go_simp
        refine hK _ _ ((Only.refl []) _) ?_
        clear hK K
        try simp only [Act.put, List.setIfInBounds_toArray, List.set_cons_zero, List.set_cons_succ]
        refine rgn.Walk.zs (NoPanic.normal ?_)
        go_wp2_with fail
        go_roundw
        case rel => exact ⟨z + s.size + rn, k + 1, by first | rfl | go_num, by first | rfl | go_num, HQ, by omega, by omega, by omega⟩
        case measure => simp [RowKit.intOf]; omega
      · have hz3 : ¬ (z : Int) ≤ 3000 := by omega
        go_wp2
        obtain ⟨wz, hwz⟩ : ∃ wz, wz = wr := ⟨_, rfl⟩
        subst hwz
        have HBx := HB
        clear HB C2 C3
        go_loopw [3, 5] (fun v3 vk wr => ∃ (z k : Nat), v3 = .int .i64 z ∧ vk = .int .i64 k ∧ Hid (Only [] W0 wr) ∧ n1 + n2 ≤ z ∧ z ≤ 300000000000000 ∧ k ≤ n2) (fun _ vk _ => n2 - (RowKit.intOf vk).toNat)
        case atStart => exact ⟨z, 0, by first | rfl | (simp; done) | go_num, rfl, HBx, by omega, by omega, by omega⟩
        case round =>
          obtain ⟨z, k, rfl, rfl, HB, hz1, hz2, hk⟩ := hrel
          have C2 : wr.cell? ⟨w.heap.size, 2, none⟩ = some (.slice A1 n1 c1) := (C0.out.only HB.out (by simp)).cell 2
          have C3 : wr.cell? ⟨w.heap.size, 3, none⟩ = some (.slice A2 n2 c2) := (C0.out.only HB.out (by simp)).cell 3
          by_cases hlt : k < n2
          · by_cases h3 : z ≤ 3000
            · obtain ⟨b, off, rfl, hb, d0, d1, d2, d3, d4⟩ := ((R2.out.only_nil Q0.out).only_nil HB.out).at k (by rw [E2.out]; exact hlt)
              have hs := (D2.out _ (rc_mem L2 k (by rw [E2.out]; exact hlt))).2
              have hn := (D2.out _ (rc_mem L2 k (by rw [E2.out]; exact hlt))).1.2.2.1
              generalize L2.getD k rc0 = r at *
              obtain ⟨s, ty, cl, ttl, rA, rn, rc, rd⟩ := r
              simp only at hs hn d0 d1 d2 d3 d4
              have hz3 : (z : Int) ≤ 3000 := by omega
              have hk1 : IntKind.i64.wrap ((z : Int) + (s.size : Int)) = (z : Int) + (s.size : Int) := i64_in _ (by omega)
              have hk2 : IntKind.i64.wrap ((z : Int) + (s.size : Int) + (rn : Int)) = (z : Int) + (s.size : Int) + (rn : Int) := i64_in _ (by omega)
              go_wp2_with fail
              refine wp_region_noPanic ?_
              refine rgn.regionT (R := Only []) (by kernel_rfl) (Only.refl []) (fun _ _ _ => Only.trans) (fun _ _ _ _ _ h => h) (.y 0 (.y 1 (.y 2 (.y 3 (.y 4 (.y 5 (.y 6 (.y 7 (.y 8 (.y 9 (.y 10 (.y 11 (.y 12 (.y 13 (.y 14 (.y 15 (.y 16 (.e 17 .z)))))))))))))))))) (by kernel_rfl) (fun W hWd => ?_)
              have HWd := hid hWd; clear hWd
              have HQ := hid (HB.out.trans (show Only [] wr W from by rw [HWd.out]; exact (Only.refl [] wr).drew))
              have m3 : W.cell? ⟨w.heap.size, 3, none⟩ = _ := (show W.cell? _ = wr.cell? _ from by rw [HWd.out]; rfl).trans C3
              have f0 := (show W.cell? _ = wr.cell? _ from by rw [HWd.out]; rfl).trans d0
              have f4 := (show W.cell? _ = wr.cell? _ from by rw [HWd.out]; rfl).trans d4
              clear HWd d0 d1 d2 d3 d4 HB C2 C3
              refine rgn.Walk.ys (v := ?_) rfl rfl rfl ?_ ?_
              rotate_left 1
              · intro W' hW'
                go_simp
                try with_reducible rfl
              try simp only [Act.put, List.setIfInBounds_toArray, List.set_cons_zero, List.set_cons_succ]
              refine rgn.Walk.ys (v := ?_) rfl rfl rfl ?_ ?_
              rotate_left 1
              · intro W' hW'
                go_simp
                try with_reducible rfl
              try simp only [Act.put, List.setIfInBounds_toArray, List.set_cons_zero, List.set_cons_succ]
              refine rgn.Walk.ys (v := ?_) rfl rfl rfl ?_ ?_
              rotate_left 1
              · intro W' hW'
                have q0 := hW'.keep m3
                go_simp
                try with_reducible rfl
              try simp only [Act.put, List.setIfInBounds_toArray, List.set_cons_zero, List.set_cons_succ]
              refine rgn.Walk.ys (v := ?_) rfl rfl rfl ?_ ?_
              rotate_left 1
              · intro W' hW'
                go_simp
                try with_reducible rfl
              try simp only [Act.put, List.setIfInBounds_toArray, List.set_cons_zero, List.set_cons_succ]
              refine rgn.Walk.ys (v := ?_) rfl rfl rfl ?_ ?_
              rotate_left 1
              · intro W' hW'
                go_simp
                try with_reducible rfl
              try simp only [Act.put, List.setIfInBounds_toArray, List.set_cons_zero, List.set_cons_succ]
              refine rgn.Walk.ys (v := ?_) rfl rfl rfl ?_ ?_
              rotate_left 1
              · intro W' hW'
                go_simp
                try with_reducible rfl
              try simp only [Act.put, List.setIfInBounds_toArray, List.set_cons_zero, List.set_cons_succ]
              refine rgn.Walk.ys (v := ?_) rfl rfl rfl ?_ ?_
              rotate_left 1
              · intro W' hW'
                have q0 := hW'.keep f0
                go_simp
                try with_reducible rfl
              try simp only [Act.put, List.setIfInBounds_toArray, List.set_cons_zero, List.set_cons_succ]
              refine rgn.Walk.ys (v := ?_) rfl rfl rfl ?_ ?_
              rotate_left 1
              · intro W' hW'
                go_simp
                try with_reducible rfl
              try simp only [Act.put, List.setIfInBounds_toArray, List.set_cons_zero, List.set_cons_succ]
              refine rgn.Walk.ys (v := ?_) rfl rfl rfl ?_ ?_
              rotate_left 1
              · intro W' hW'
                go_simp
                try with_reducible rfl
              try simp only [Act.put, List.setIfInBounds_toArray, List.set_cons_zero, List.set_cons_succ]
              refine rgn.Walk.ys (v := ?_) rfl rfl rfl ?_ ?_
              rotate_left 1
              · intro W' hW'
                go_simp
                try with_reducible rfl
              try simp only [Act.put, List.setIfInBounds_toArray, List.set_cons_zero, List.set_cons_succ]
              refine rgn.Walk.ys (v := ?_) rfl rfl rfl ?_ ?_
              rotate_left 1
              · intro W' hW'
                have q0 := hW'.keep m3
                go_simp
                try with_reducible rfl
              try simp only [Act.put, List.setIfInBounds_toArray, List.set_cons_zero, List.set_cons_succ]
              refine rgn.Walk.ys (v := ?_) rfl rfl rfl ?_ ?_
              rotate_left 1
              · intro W' hW'
                go_simp
                try with_reducible rfl
              try simp only [Act.put, List.setIfInBounds_toArray, List.set_cons_zero, List.set_cons_succ]
              refine rgn.Walk.ys (v := ?_) rfl rfl rfl ?_ ?_
              rotate_left 1
              · intro W' hW'
                go_simp
                try with_reducible rfl
              try simp only [Act.put, List.setIfInBounds_toArray, List.set_cons_zero, List.set_cons_succ]
              refine rgn.Walk.ys (v := ?_) rfl rfl rfl ?_ ?_
              rotate_left 1
              · intro W' hW'
                go_simp
                try with_reducible rfl
              try simp only [Act.put, List.setIfInBounds_toArray, List.set_cons_zero, List.set_cons_succ]
              refine rgn.Walk.ys (v := ?_) rfl rfl rfl ?_ ?_
              rotate_left 1
              · intro W' hW'
                have q0 := hW'.keep f4
                go_simp
                try with_reducible rfl
              try simp only [Act.put, List.setIfInBounds_toArray, List.set_cons_zero, List.set_cons_succ]
              refine rgn.Walk.ys (v := ?_) rfl rfl rfl ?_ ?_
              rotate_left 1
              · intro W' hW'
                go_simp
                try with_reducible rfl
              try simp only [Act.put, List.setIfInBounds_toArray, List.set_cons_zero, List.set_cons_succ]
              refine rgn.Walk.ys (v := ?_) rfl rfl rfl ?_ ?_
              rotate_left 1
              · intro W' hW'
                go_simp
                try with_reducible rfl
              try simp only [Act.put, List.setIfInBounds_toArray, List.set_cons_zero, List.set_cons_succ]
              refine rgn.Walk.es ?_
              refine rgn.stepE rfl rfl (fun K hK => ?_)
              go_simp
              refine hK _ _ ((Only.refl []) _) ?_
              clear hK K
              try simp only [Act.put, List.setIfInBounds_toArray, List.set_cons_zero, List.set_cons_succ]
              refine rgn.Walk.zs (NoPanic.normal ?_)
              go_wp2_with fail
              go_roundw
              case rel => exact ⟨z + s.size + rn, k + 1, by first | rfl | go_num, by first | rfl | go_num, HQ, by omega, by omega, by omega⟩
              case measure => simp [RowKit.intOf]; omega
            · have hz3 : ¬ (z : Int) ≤ 3000 := by omega
              go_wp2
              go_ret
              exact ⟨_, rfl, Q0.out.trans HB.out, fun h => by simp at h <;> omega⟩

          · go_wp2
            go_ret
            exact ⟨_, rfl, Q0.out.trans HB.out, fun h => by simp at h <;> omega⟩

    · go_wp2
      obtain ⟨wz, hwz⟩ : ∃ wz, wz = wr := ⟨_, rfl⟩
      subst hwz
      have HBx := HB
      clear HB C2 C3
      go_loopw [3, 5] (fun v3 vk wr => ∃ (z k : Nat), v3 = .int .i64 z ∧ vk = .int .i64 k ∧ Hid (Only [] W0 wr) ∧ n1 + n2 ≤ z ∧ z ≤ 300000000000000 ∧ k ≤ n2) (fun _ vk _ => n2 - (RowKit.intOf vk).toNat)
      case atStart => exact ⟨z, 0, by first | rfl | (simp; done) | go_num, rfl, HBx, by omega, by omega, by omega⟩
      case round =>
        obtain ⟨z, k, rfl, rfl, HB, hz1, hz2, hk⟩ := hrel
        have C2 : wr.cell? ⟨w.heap.size, 2, none⟩ = some (.slice A1 n1 c1) := (C0.out.only HB.out (by simp)).cell 2
        have C3 : wr.cell? ⟨w.heap.size, 3, none⟩ = some (.slice A2 n2 c2) := (C0.out.only HB.out (by simp)).cell 3
        by_cases hlt : k < n2
        · by_cases h3 : z ≤ 3000
          · obtain ⟨b, off, rfl, hb, d0, d1, d2, d3, d4⟩ := ((R2.out.only_nil Q0.out).only_nil HB.out).at k (by rw [E2.out]; exact hlt)
            have hs := (D2.out _ (rc_mem L2 k (by rw [E2.out]; exact hlt))).2
            have hn := (D2.out _ (rc_mem L2 k (by rw [E2.out]; exact hlt))).1.2.2.1
            generalize L2.getD k rc0 = r at *
            obtain ⟨s, ty, cl, ttl, rA, rn, rc, rd⟩ := r
            simp only at hs hn d0 d1 d2 d3 d4
            have hz3 : (z : Int) ≤ 3000 := by omega
            have hk1 : IntKind.i64.wrap ((z : Int) + (s.size : Int)) = (z : Int) + (s.size : Int) := i64_in _ (by omega)
            have hk2 : IntKind.i64.wrap ((z : Int) + (s.size : Int) + (rn : Int)) = (z : Int) + (s.size : Int) + (rn : Int) := i64_in _ (by omega)
            go_wp2_with fail
            refine wp_region_noPanic ?_
            refine rgn.regionT (R := Only []) (by kernel_rfl) (Only.refl []) (fun _ _ _ => Only.trans) (fun _ _ _ _ _ h => h) (.y 0 (.y 1 (.y 2 (.y 3 (.y 4 (.y 5 (.y 6 (.y 7 (.y 8 (.y 9 (.y 10 (.y 11 (.y 12 (.y 13 (.y 14 (.y 15 (.y 16 (.e 17 .z)))))))))))))))))) (by kernel_rfl) (fun W hWd => ?_)
            have HWd := hid hWd; clear hWd
            have HQ := hid (HB.out.trans (show Only [] wr W from by rw [HWd.out]; exact (Only.refl [] wr).drew))
            have m3 : W.cell? ⟨w.heap.size, 3, none⟩ = _ := (show W.cell? _ = wr.cell? _ from by rw [HWd.out]; rfl).trans C3
            have f0 := (show W.cell? _ = wr.cell? _ from by rw [HWd.out]; rfl).trans d0
            have f4 := (show W.cell? _ = wr.cell? _ from by rw [HWd.out]; rfl).trans d4
            clear HWd d0 d1 d2 d3 d4 HB C2 C3
            refine rgn.Walk.ys (v := ?_) rfl rfl rfl ?_ ?_
            rotate_left 1
            · intro W' hW'
              go_simp
              try with_reducible rfl
            try simp only [Act.put, List.setIfInBounds_toArray, List.set_cons_zero, List.set_cons_succ]
            refine rgn.Walk.ys (v := ?_) rfl rfl rfl ?_ ?_
            rotate_left 1
            · intro W' hW'
              go_simp
              try with_reducible rfl
            try simp only [Act.put, List.setIfInBounds_toArray, List.set_cons_zero, List.set_cons_succ]
            refine rgn.Walk.ys (v := ?_) rfl rfl rfl ?_ ?_
            rotate_left 1
            · intro W' hW'
              have q0 := hW'.keep m3
              go_simp
              try with_reducible rfl
            try simp only [Act.put, List.setIfInBounds_toArray, List.set_cons_zero, List.set_cons_succ]
            refine rgn.Walk.ys (v := ?_) rfl rfl rfl ?_ ?_
            rotate_left 1
            · intro W' hW'
              go_simp
              try with_reducible rfl
            try simp only [Act.put, List.setIfInBounds_toArray, List.set_cons_zero, List.set_cons_succ]
            refine rgn.Walk.ys (v := ?_) rfl rfl rfl ?_ ?_
            rotate_left 1
            · intro W' hW'
              go_simp
              try with_reducible rfl
            try simp only [Act.put, List.setIfInBounds_toArray, List.set_cons_zero, List.set_cons_succ]
            refine rgn.Walk.ys (v := ?_) rfl rfl rfl ?_ ?_
            rotate_left 1
            · intro W' hW'
              go_simp
              try with_reducible rfl
            try simp only [Act.put, List.setIfInBounds_toArray, List.set_cons_zero, List.set_cons_succ]
            refine rgn.Walk.ys (v := ?_) rfl rfl rfl ?_ ?_
            rotate_left 1
            · intro W' hW'
              have q0 := hW'.keep f0
              go_simp
              try with_reducible rfl
            try simp only [Act.put, List.setIfInBounds_toArray, List.set_cons_zero, List.set_cons_succ]
            refine rgn.Walk.ys (v := ?_) rfl rfl rfl ?_ ?_
            rotate_left 1
            · intro W' hW'
              go_simp
              try with_reducible rfl
            try simp only [Act.put, List.setIfInBounds_toArray, List.set_cons_zero, List.set_cons_succ]
            refine rgn.Walk.ys (v := ?_) rfl rfl rfl ?_ ?_
            rotate_left 1
            · intro W' hW'
              go_simp
              try with_reducible rfl
            try simp only [Act.put, List.setIfInBounds_toArray, List.set_cons_zero, List.set_cons_succ]
            refine rgn.Walk.ys (v := ?_) rfl rfl rfl ?_ ?_
            rotate_left 1
            · intro W' hW'
              go_simp
              try with_reducible rfl
            try simp only [Act.put, List.setIfInBounds_toArray, List.set_cons_zero, List.set_cons_succ]
            refine rgn.Walk.ys (v := ?_) rfl rfl rfl ?_ ?_
            rotate_left 1
            · intro W' hW'
              have q0 := hW'.keep m3
              go_simp
              try with_reducible rfl
            try simp only [Act.put, List.setIfInBounds_toArray, List.set_cons_zero, List.set_cons_succ]
            refine rgn.Walk.ys (v := ?_) rfl rfl rfl ?_ ?_
            rotate_left 1
            · intro W' hW'
              go_simp
              try with_reducible rfl
            try simp only [Act.put, List.setIfInBounds_toArray, List.set_cons_zero, List.set_cons_succ]
            refine rgn.Walk.ys (v := ?_) rfl rfl rfl ?_ ?_
            rotate_left 1
            · intro W' hW'
              go_simp
              try with_reducible rfl
            try simp only [Act.put, List.setIfInBounds_toArray, List.set_cons_zero, List.set_cons_succ]
            refine rgn.Walk.ys (v := ?_) rfl rfl rfl ?_ ?_
            rotate_left 1
            · intro W' hW'
              go_simp
              try with_reducible rfl
            try simp only [Act.put, List.setIfInBounds_toArray, List.set_cons_zero, List.set_cons_succ]
            refine rgn.Walk.ys (v := ?_) rfl rfl rfl ?_ ?_
            rotate_left 1
            · intro W' hW'
              have q0 := hW'.keep f4
              go_simp
              try with_reducible rfl
            try simp only [Act.put, List.setIfInBounds_toArray, List.set_cons_zero, List.set_cons_succ]
            refine rgn.Walk.ys (v := ?_) rfl rfl rfl ?_ ?_
            rotate_left 1
            · intro W' hW'
              go_simp
              try with_reducible rfl
            try simp only [Act.put, List.setIfInBounds_toArray, List.set_cons_zero, List.set_cons_succ]
            refine rgn.Walk.ys (v := ?_) rfl rfl rfl ?_ ?_
            rotate_left 1
            · intro W' hW'
              go_simp
              try with_reducible rfl
            try simp only [Act.put, List.setIfInBounds_toArray, List.set_cons_zero, List.set_cons_succ]
            refine rgn.Walk.es ?_
            refine rgn.stepE rfl rfl (fun K hK => ?_)
            go_simp
            refine hK _ _ ((Only.refl []) _) ?_
            clear hK K
            try simp only [Act.put, List.setIfInBounds_toArray, List.set_cons_zero, List.set_cons_succ]
            refine rgn.Walk.zs (NoPanic.normal ?_)
            go_wp2_with fail
            go_roundw
            case rel => exact ⟨z + s.size + rn, k + 1, by first | rfl | go_num, by first | rfl | go_num, HQ, by omega, by omega, by omega⟩
            case measure => simp [RowKit.intOf]; omega
          · have hz3 : ¬ (z : Int) ≤ 3000 := by omega
            go_wp2
            go_ret
            exact ⟨_, rfl, Q0.out.trans HB.out, fun h => by simp at h <;> omega⟩

        · go_wp2
          go_ret
          exact ⟨_, rfl, Q0.out.trans HB.out, fun h => by simp at h <;> omega⟩
end Go.Proofs.Ytfoecnlbiaiibaa.nam
