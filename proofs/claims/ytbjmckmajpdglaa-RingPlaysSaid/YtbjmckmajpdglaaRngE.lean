/-
  Chapter 13 (ring): a Ring's functions, and the document's, each by a walk of its text. Conditions: none but those typed.
-/
import Derived.Test.YtbjmckmajpdglaaRngD
namespace Go.Proofs.Ytbjmckmajpdglaa.rng
set_option linter.unusedVariables false
set_option linter.unusedSimpArgs false
open Go.ChangeShapes Go.WideShapes Go.ChangeAt Go.RowKit Go.IntWalk Go.Lib
theorem own_flat {k : IntKind} {e : TypeId} {w : World} {base : Nat} {v : Value} {l : List Int} {A : Option Addr} {n cap : Nat} (h : Own k e w base v l) (ev : v = .slice A n cap) : A = none ∨ ∃ b off, A = some ⟨b, off, none⟩ := by
  rcases h.1.2 with ⟨hv, _⟩ | ⟨g', cap', cur, hv, _⟩
  · rw [ev] at hv; injection hv with h1; exact .inl h1
  · rw [ev] at hv; injection hv with h1; exact .inr ⟨_, _, h1⟩
/-- The document's Ring at g: how many fit, and its bytes. -/
abbrev EObj (w : World) (g : Nat) (N : Nat) (A : Option Addr) (n c : Nat) : Prop := Ob w g 43 #[.int .i64 (N : Int), .slice A n c]
theorem elen (w : World) (g N : Nat) (A : Option Addr) (n c : Nat) (h : EObj w g N A n c) : Calls Try.prog 23 #[.pointer (some ⟨g, 0, none⟩)] w fun e w' => e = .returned (.int .i64 n) ∧ w = w' := by
  have c1 : w.cell? ⟨g, 1, none⟩ = some (.slice A n c) := h.cell 1
  have hlt := h.lt
  clear h
  go_enter Try.func23, Try.ntmps23
  go_wp2
  go_ret
  exact ⟨rfl, rfl⟩
theorem efree (w : World) (g N : Nat) (A : Option Addr) (n c : Nat) (h : EObj w g N A n c) (hn : n ≤ N) (hN : N ≤ 1048560) : Calls Try.prog 25 #[.pointer (some ⟨g, 0, none⟩)] w fun e w' => e = .returned (.int .i64 (N - n : Nat)) ∧ ∃ q, w' = w.drewN q := by
  have c0 : w.cell? ⟨g, 0, none⟩ = some (.int .i64 (N : Int)) := h.cell 0
  have c1 : w.cell? ⟨g, 1, none⟩ = some (.slice A n c) := h.cell 1
  have hlt := h.lt
  have HV : Hid ((N : Int) - n = (N - n : Nat)) := hid (by omega)
  clear h
  go_enter Try.func25, Try.ntmps25
  go_wp2
  go_quiet (fail)
  go_wp2
  go_ret
  exact ⟨rInt HV.out, _, rfl⟩
theorem enew (w : World) (N : Nat) (hN : 1 ≤ N ∧ N ≤ 1048560) : Calls Try.prog 11 #[.int .i64 (N : Int)] w fun x w' => x = .returned (.tuple #[.pointer (some ⟨w.heap.size, 0, none⟩), .int .i64 0]) ∧ EObj w' w.heap.size N none 0 0 ∧ Only [] w w' := by
  have HB : Hid (Only [] w w) := hid (Only.refl [] w)
  go_enter Try.func11, Try.ntmps11
  go_wp2
  go_ret2
  refine ⟨rfl, Ob.new _ _ _, HB.out.alloc _⟩
theorem enew_bad (w : World) (n : Int) (hn : n < 1 ∨ 1048560 < n) : Calls Try.prog 11 #[.int .i64 n] w fun x w' => x = .returned (.tuple #[.pointer none, .int .i64 1]) ∧ w = w' := by
  by_cases h : n < 1
  · go_enter Try.func11, Try.ntmps11
    go_wp2
    go_ret2
    exact ⟨rfl, rfl⟩
  · have h2 : n > 1048560 := by omega
    go_enter Try.func11, Try.ntmps11
    go_wp2
    go_ret2
    exact ⟨rfl, rfl⟩
/-- What the document's Write leaves: a row of its own. -/
def EWEnd (w : World) (g N m k : Nat) (l : List Int) (x : Ending) (w' : World) : Prop :=
  x = .returned (.int .i64 (k : Nat)) ∧ ∃ A c, EObj w' g N A m c ∧ Rd .u8 w' A m l ∧ (A = none → c = 0) ∧ m ≤ c ∧ c ≤ maxLen ∧ (∀ b off, A = some ⟨b, off, none⟩ → w.heap.size ≤ b) ∧ (A = none ∨ ∃ b off, A = some ⟨b, off, none⟩) ∧ Only [g] w w'
set_option maxHeartbeats 1000000 in
theorem ewrite (w : World) (g N : Nat) (A : Option Addr) (n c : Nat) (l : List Int) (AP : Option Addr) (nP cP : Nat) (p : List Int) (H : EObj w g N A n c) (hl : Rd .u8 w A n l) (hc0 : A = none → c = 0) (hn : n ≤ N) (hN : N ≤ 1048560)
    (hp : Rd .u8 w AP nP p) (hp0 : AP = none → cP = 0) (hpc : nP ≤ cP) (hpn : nP ≤ 140737488351232) (k : Nat) (hk : k = min nP (N - n)) : Calls Try.prog 14 #[.pointer (some ⟨g, 0, none⟩), .slice AP nP cP] w (EWEnd w g N (n + k) k (l ++ p.take k)) := by
  have c0 : w.cell? ⟨g, 0, none⟩ = some (.int .i64 (N : Int)) := H.cell 0
  have c1 : w.cell? ⟨g, 1, none⟩ = some (.slice A n c) := H.cell 1
  have hlt := H.lt
  have HR := hid H; have HL := hid hl; have HC := hid hc0; have HP := hid hp; have HCP := hid hp0
  have HLen := hid hl.len
  have HB : Hid (Only [] w w) := hid (Only.refl [] w)
  clear H hl hc0 hp hp0
  by_cases hm : nP ≤ N - n
  · obtain rfl : k = nP := by omega
    have hmi : ¬ ((N : Int) - n < k) := by omega
    clear hm hk
    go_enter Try.func14, Try.ntmps14
    go_wp2_with fail
    go_quiet (fail)
    go_wp2_with fail
    refine wp_region_noPanic ?_
    refine rgn.regionT (R := AnyW) (by kernel_rfl) (fun _ => AnyW.any _ _) (fun _ _ _ _ _ => AnyW.any _ _) (fun _ _ _ _ _ h => h) (.y 0 (.y 2 (.y 3 (.y 4 (.y 7 (.y 8 (.y 9 (.b 1 5 (.e 5 (.e 6 (.e 10 (.y 11 (.y 12 (.e 13 .z)))))) (.e 1 (.e 6 (.e 10 (.y 11 (.y 12 (.e 13 .z)))))))))))))) (by kernel_rfl) (fun W hWd => ?_)
    have HWd := hid hWd; clear hWd
    have HB := hid (Only.eq_drew (HB.out.drewN _) HWd.out)
    refine rgn.Walk.ys (v := ?_) rfl rfl rfl ?_ ?_
    rotate_left 1
    · intro W' hW'
      go_simp
      try with_reducible rfl
    try simp only [Act.put, List.setIfInBounds_toArray, List.set_cons_zero, List.set_cons_succ]
    refine rgn.Walk.ys (v := ?_) rfl rfl rfl ?_ ?_
    rotate_left 1
    · intro W' hW'
      go_simp
      try with_reducible rfl
    try simp only [Act.put, List.setIfInBounds_toArray, List.set_cons_zero, List.set_cons_succ]
    refine rgn.Walk.ys (v := ?_) rfl rfl rfl ?_ ?_
    rotate_left 1
    · intro W' hW'
      go_simp
      try with_reducible rfl
    try simp only [Act.put, List.setIfInBounds_toArray, List.set_cons_zero, List.set_cons_succ]
    refine rgn.Walk.ys (v := ?_) rfl rfl rfl ?_ ?_
    rotate_left 1
    · intro W' hW'
      go_simp
      try with_reducible rfl
    try simp only [Act.put, List.setIfInBounds_toArray, List.set_cons_zero, List.set_cons_succ]
    refine rgn.Walk.ys (v := ?_) rfl rfl rfl ?_ ?_
    rotate_left 1
    · intro W' hW'
      go_simp
      try with_reducible rfl
    try simp only [Act.put, List.setIfInBounds_toArray, List.set_cons_zero, List.set_cons_succ]
    refine rgn.Walk.ys (v := ?_) rfl rfl rfl ?_ ?_
    rotate_left 1
    · intro W' hW'
      go_simp
      try with_reducible rfl
    try simp only [Act.put, List.setIfInBounds_toArray, List.set_cons_zero, List.set_cons_succ]
    refine rgn.Walk.ys (v := ?_) rfl rfl rfl ?_ ?_
    rotate_left 1
    · intro W' hW'
      go_simp
      try with_reducible rfl
    try simp only [Act.put, List.setIfInBounds_toArray, List.set_cons_zero, List.set_cons_succ]
    refine rgn.Walk.bs ?_ ?_
    · refine rgn.stepE rfl rfl (fun K hK => ?_)
      go_simp
      refine hK _ _ (AnyW.any _ _) ?_
      clear hK K
      try simp only [Act.put, List.setIfInBounds_toArray, List.set_cons_zero, List.set_cons_succ]
      have V0 : Hid (Own .u8 5 _ w.heap.size _ []) := hid (Own.lit .u8 5 _ w.heap.size [] #[] 0 rfl rfl HB.out.size (by simp) (by simp)); have HB := hid (HB.out.alloc (.cells #[] 5))
      refine rgn.Walk.es ?_
      refine rgn.stepE rfl rfl (fun K hK => ?_)
      have qq : World.cell? _ ⟨g, 1, none⟩ = some (.slice A n c) := (HR.out.only HB.out (by simp)).cell 1
      go_simp
      refine hK _ _ (AnyW.any _ _) ?_
      clear hK K qq
      try simp only [Act.put, List.setIfInBounds_toArray, List.set_cons_zero, List.set_cons_succ]
      refine rgn.Walk.es ?_
      refine rgn.stepE rfl rfl (fun K hK => ?_)
      refine opApp rfl (.tmp 20) (.tmp 24) _ rfl hlp.elemB w.heap.size _ [] rfl V0.out A n c l rfl (HL.out.only_nil HB.out) HC.out (by simp; omega) (by unfold maxLen; simp; omega) HB.out.size ?_
      intro v1 w1 hv hg hb
      refine hK _ _ (AnyW.any _ _) ?_
      clear hK K
      try simp only [Act.put, List.setIfInBounds_toArray, List.set_cons_zero, List.set_cons_succ]
      have HB := hid (HB.out.of_grown hg (fun k hk => .inr (V0.out.lt k hk).1)); have V1 : Hid (Own .u8 5 w1 w.heap.size v1 l) := hid hv; clear hv hg hb V0
      refine rgn.Walk.es ?_
      refine rgn.stepE rfl rfl (fun K hK => ?_)
      refine opApp rfl (.tmp 25) (.tmp 28) _ rfl hlp.elemB w.heap.size _ l rfl V1.out AP (k) cP (p.take (k)) rfl ((HP.out.only_nil HB.out).take (k) (by omega)) HCP.out (by rw [HLen.out]; omega) (by rw [HLen.out]; unfold maxLen; omega) HB.out.size ?_
      intro v2 w2 hv hg hb
      refine hK _ _ (AnyW.any _ _) ?_
      clear hK K
      try simp only [Act.put, List.setIfInBounds_toArray, List.set_cons_zero, List.set_cons_succ]
      have HB := hid (HB.out.of_grown hg (fun k hk => .inr (V1.out.lt k hk).1)); have V2 := hid hv; clear hv hg hb V1
      refine rgn.Walk.ys (v := ?_) rfl rfl rfl ?_ ?_
      rotate_left 1
      · intro W' hW'
        go_simp
        try with_reducible rfl
      try simp only [Act.put, List.setIfInBounds_toArray, List.set_cons_zero, List.set_cons_succ]
      refine rgn.Walk.ys (v := ?_) rfl rfl rfl ?_ ?_
      rotate_left 1
      · intro W' hW'
        go_simp
        try with_reducible rfl
      try simp only [Act.put, List.setIfInBounds_toArray, List.set_cons_zero, List.set_cons_succ]
      refine rgn.Walk.es ?_
      refine rgn.stepE rfl rfl (fun K hK => ?_)
      have qq : World.cell? _ ⟨g, 1, none⟩ = some (.slice A n c) := (HR.out.only HB.out (by simp)).cell 1
      have ff := (HR.out.only HB.out (by simp)).frozen 1
      obtain ⟨A2, cap2, ev2, hc2, hm2, r2, hb2⟩ := V2.out.slice
      have hal : (l ++ p.take (k)).length = n + (k) := by rw [List.length_append, HLen.out, List.length_take, HP.out.len]; omega
      rw [hal] at ev2 hc2 r2
      clear hal
      rw [ev2]
      go_simp
      refine hK _ _ (AnyW.any _ _) ?_
      clear hK K qq ff
      try simp only [Act.put, List.setIfInBounds_toArray, List.set_cons_zero, List.set_cons_succ]
      have EV2 := hid ev2; have HC2 := hid hc2; have HM2 := hid hm2; have R2 := hid r2; have HB2 := hid hb2; clear ev2 hc2 hm2 r2 hb2
      refine rgn.Walk.zs (NoPanic.normal ?_)
      have HR2 := hid ((HR.out.only HB.out (by simp)).set 1 (.slice A2 (n + (k)) cap2))
      have R3 := hid (R2.out.setFar (p := ⟨g, 1, none⟩) (.slice A2 (n + (k)) cap2) (fun b off e => by have := (V2.out.lt b (HB2.out b off e)).1; show b ≠ g; omega))
      have HB3 := hid ((HB.out.more (S' := [g]) (by simp)).setCell (p := ⟨g, 1, none⟩) (.inl (by simp)) (.slice A2 (n + (k)) cap2))
      have HNC : Hid (A2 = none → cap2 = 0) := hid (own_notNil V2.out EV2.out)
      have HFL : Hid (A2 = none ∨ ∃ b off, A2 = some ⟨b, off, none⟩) := hid (own_flat V2.out EV2.out)
      have HNB : Hid (∀ b off, A2 = some ⟨b, off, none⟩ → w.heap.size ≤ b) := hid (fun b off e => (V2.out.lt b (HB2.out b off e)).1)
      go_wp2
      go_ret
      refine ⟨rfl, A2, cap2, ?_, R3.out, HNC.out, HC2.out, HM2.out, HNB.out, HFL.out, HB3.out⟩
      have := HR2.out
      simpa [EObj] using this
    · refine rgn.stepE rfl rfl (fun K hK => ?_)
      have qq : World.cell? _ ⟨g, 1, none⟩ = some (.slice A n c) := (HR.out.only HB.out (by simp)).cell 1
      go_simp
      refine hK _ _ (AnyW.any _ _) ?_
      clear hK K qq
      try simp only [Act.put, List.setIfInBounds_toArray, List.set_cons_zero, List.set_cons_succ]
      refine rgn.Walk.es ?_
      refine rgn.stepE rfl rfl (fun K hK => ?_)
      go_simp
      refine hK _ _ (AnyW.any _ _) ?_
      clear hK K
      try simp only [Act.put, List.setIfInBounds_toArray, List.set_cons_zero, List.set_cons_succ]
      have V0 : Hid (Own .u8 5 _ w.heap.size _ []) := hid (Own.lit .u8 5 _ w.heap.size [] #[] 0 rfl rfl HB.out.size (by simp) (by simp)); have HB := hid (HB.out.alloc (.cells #[] 5))
      refine rgn.Walk.es ?_
      refine rgn.stepE rfl rfl (fun K hK => ?_)
      refine opApp rfl (.tmp 20) (.tmp 24) _ rfl hlp.elemB w.heap.size _ [] rfl V0.out A n c l rfl (HL.out.only_nil HB.out) HC.out (by simp; omega) (by unfold maxLen; simp; omega) HB.out.size ?_
      intro v1 w1 hv hg hb
      refine hK _ _ (AnyW.any _ _) ?_
      clear hK K
      try simp only [Act.put, List.setIfInBounds_toArray, List.set_cons_zero, List.set_cons_succ]
      have HB := hid (HB.out.of_grown hg (fun k hk => .inr (V0.out.lt k hk).1)); have V1 : Hid (Own .u8 5 w1 w.heap.size v1 l) := hid hv; clear hv hg hb V0
      refine rgn.Walk.es ?_
      refine rgn.stepE rfl rfl (fun K hK => ?_)
      refine opApp rfl (.tmp 25) (.tmp 28) _ rfl hlp.elemB w.heap.size _ l rfl V1.out AP (k) cP (p.take (k)) rfl ((HP.out.only_nil HB.out).take (k) (by omega)) HCP.out (by rw [HLen.out]; omega) (by rw [HLen.out]; unfold maxLen; omega) HB.out.size ?_
      intro v2 w2 hv hg hb
      refine hK _ _ (AnyW.any _ _) ?_
      clear hK K
      try simp only [Act.put, List.setIfInBounds_toArray, List.set_cons_zero, List.set_cons_succ]
      have HB := hid (HB.out.of_grown hg (fun k hk => .inr (V1.out.lt k hk).1)); have V2 := hid hv; clear hv hg hb V1
      refine rgn.Walk.ys (v := ?_) rfl rfl rfl ?_ ?_
      rotate_left 1
      · intro W' hW'
        go_simp
        try with_reducible rfl
      try simp only [Act.put, List.setIfInBounds_toArray, List.set_cons_zero, List.set_cons_succ]
      refine rgn.Walk.ys (v := ?_) rfl rfl rfl ?_ ?_
      rotate_left 1
      · intro W' hW'
        go_simp
        try with_reducible rfl
      try simp only [Act.put, List.setIfInBounds_toArray, List.set_cons_zero, List.set_cons_succ]
      refine rgn.Walk.es ?_
      refine rgn.stepE rfl rfl (fun K hK => ?_)
      have qq : World.cell? _ ⟨g, 1, none⟩ = some (.slice A n c) := (HR.out.only HB.out (by simp)).cell 1
      have ff := (HR.out.only HB.out (by simp)).frozen 1
      obtain ⟨A2, cap2, ev2, hc2, hm2, r2, hb2⟩ := V2.out.slice
      have hal : (l ++ p.take (k)).length = n + (k) := by rw [List.length_append, HLen.out, List.length_take, HP.out.len]; omega
      rw [hal] at ev2 hc2 r2
      clear hal
      rw [ev2]
      go_simp
      refine hK _ _ (AnyW.any _ _) ?_
      clear hK K qq ff
      try simp only [Act.put, List.setIfInBounds_toArray, List.set_cons_zero, List.set_cons_succ]
      have EV2 := hid ev2; have HC2 := hid hc2; have HM2 := hid hm2; have R2 := hid r2; have HB2 := hid hb2; clear ev2 hc2 hm2 r2 hb2
      refine rgn.Walk.zs (NoPanic.normal ?_)
      have HR2 := hid ((HR.out.only HB.out (by simp)).set 1 (.slice A2 (n + (k)) cap2))
      have R3 := hid (R2.out.setFar (p := ⟨g, 1, none⟩) (.slice A2 (n + (k)) cap2) (fun b off e => by have := (V2.out.lt b (HB2.out b off e)).1; show b ≠ g; omega))
      have HB3 := hid ((HB.out.more (S' := [g]) (by simp)).setCell (p := ⟨g, 1, none⟩) (.inl (by simp)) (.slice A2 (n + (k)) cap2))
      have HNC : Hid (A2 = none → cap2 = 0) := hid (own_notNil V2.out EV2.out)
      have HFL : Hid (A2 = none ∨ ∃ b off, A2 = some ⟨b, off, none⟩) := hid (own_flat V2.out EV2.out)
      have HNB : Hid (∀ b off, A2 = some ⟨b, off, none⟩ → w.heap.size ≤ b) := hid (fun b off e => (V2.out.lt b (HB2.out b off e)).1)
      go_wp2
      go_ret
      refine ⟨rfl, A2, cap2, ?_, R3.out, HNC.out, HC2.out, HM2.out, HNB.out, HFL.out, HB3.out⟩
      have := HR2.out
      simpa [EObj] using this
  · have hmi : ((N : Int) - n < nP) := by omega
    have hkN : (N : Int) - n = (k : Nat) := by omega
    have hkp : k ≤ nP := by omega
    have hkc : (k : Int) ≤ cP := by omega
    have hkN0 : k + n = N := by omega
    clear hm hk
    go_enter Try.func14, Try.ntmps14
    go_wp2_with fail
    go_quiet (fail)
    try simp only [hkN]
    go_wp2_with fail
    refine wp_region_noPanic ?_
    refine rgn.regionT (R := AnyW) (by kernel_rfl) (fun _ => AnyW.any _ _) (fun _ _ _ _ _ => AnyW.any _ _) (fun _ _ _ _ _ h => h) (.y 0 (.y 2 (.y 3 (.y 4 (.y 7 (.y 8 (.y 9 (.b 1 5 (.e 5 (.e 6 (.e 10 (.y 11 (.y 12 (.e 13 .z)))))) (.e 1 (.e 6 (.e 10 (.y 11 (.y 12 (.e 13 .z)))))))))))))) (by kernel_rfl) (fun W hWd => ?_)
    have HWd := hid hWd; clear hWd
    have HB := hid (Only.eq_drew (HB.out.drewN _) HWd.out)
    refine rgn.Walk.ys (v := ?_) rfl rfl rfl ?_ ?_
    rotate_left 1
    · intro W' hW'
      go_simp
      try with_reducible rfl
    try simp only [Act.put, List.setIfInBounds_toArray, List.set_cons_zero, List.set_cons_succ]
    refine rgn.Walk.ys (v := ?_) rfl rfl rfl ?_ ?_
    rotate_left 1
    · intro W' hW'
      go_simp
      try with_reducible rfl
    try simp only [Act.put, List.setIfInBounds_toArray, List.set_cons_zero, List.set_cons_succ]
    refine rgn.Walk.ys (v := ?_) rfl rfl rfl ?_ ?_
    rotate_left 1
    · intro W' hW'
      go_simp
      try with_reducible rfl
    try simp only [Act.put, List.setIfInBounds_toArray, List.set_cons_zero, List.set_cons_succ]
    refine rgn.Walk.ys (v := ?_) rfl rfl rfl ?_ ?_
    rotate_left 1
    · intro W' hW'
      go_simp
      try with_reducible rfl
    try simp only [Act.put, List.setIfInBounds_toArray, List.set_cons_zero, List.set_cons_succ]
    refine rgn.Walk.ys (v := ?_) rfl rfl rfl ?_ ?_
    rotate_left 1
    · intro W' hW'
      go_simp
      try with_reducible rfl
    try simp only [Act.put, List.setIfInBounds_toArray, List.set_cons_zero, List.set_cons_succ]
    refine rgn.Walk.ys (v := ?_) rfl rfl rfl ?_ ?_
    rotate_left 1
    · intro W' hW'
      go_simp
      try with_reducible rfl
    try simp only [Act.put, List.setIfInBounds_toArray, List.set_cons_zero, List.set_cons_succ]
    refine rgn.Walk.ys (v := ?_) rfl rfl rfl ?_ ?_
    rotate_left 1
    · intro W' hW'
      go_simp
      try with_reducible rfl
    try simp only [Act.put, List.setIfInBounds_toArray, List.set_cons_zero, List.set_cons_succ]
    refine rgn.Walk.bs ?_ ?_
    · refine rgn.stepE rfl rfl (fun K hK => ?_)
      go_simp
      refine hK _ _ (AnyW.any _ _) ?_
      clear hK K
      try simp only [Act.put, List.setIfInBounds_toArray, List.set_cons_zero, List.set_cons_succ]
      have V0 : Hid (Own .u8 5 _ w.heap.size _ []) := hid (Own.lit .u8 5 _ w.heap.size [] #[] 0 rfl rfl HB.out.size (by simp) (by simp)); have HB := hid (HB.out.alloc (.cells #[] 5))
      refine rgn.Walk.es ?_
      refine rgn.stepE rfl rfl (fun K hK => ?_)
      have qq : World.cell? _ ⟨g, 1, none⟩ = some (.slice A n c) := (HR.out.only HB.out (by simp)).cell 1
      go_simp
      refine hK _ _ (AnyW.any _ _) ?_
      clear hK K qq
      try simp only [Act.put, List.setIfInBounds_toArray, List.set_cons_zero, List.set_cons_succ]
      refine rgn.Walk.es ?_
      refine rgn.stepE rfl rfl (fun K hK => ?_)
      refine opApp rfl (.tmp 20) (.tmp 24) _ rfl hlp.elemB w.heap.size _ [] rfl V0.out A n c l rfl (HL.out.only_nil HB.out) HC.out (by simp; omega) (by unfold maxLen; simp; omega) HB.out.size ?_
      intro v1 w1 hv hg hb
      refine hK _ _ (AnyW.any _ _) ?_
      clear hK K
      try simp only [Act.put, List.setIfInBounds_toArray, List.set_cons_zero, List.set_cons_succ]
      have HB := hid (HB.out.of_grown hg (fun k hk => .inr (V0.out.lt k hk).1)); have V1 : Hid (Own .u8 5 w1 w.heap.size v1 l) := hid hv; clear hv hg hb V0
      refine rgn.Walk.es ?_
      refine rgn.stepE rfl rfl (fun K hK => ?_)
      refine opApp rfl (.tmp 25) (.tmp 28) _ rfl hlp.elemB w.heap.size _ l rfl V1.out AP (k) cP (p.take (k)) rfl ((HP.out.only_nil HB.out).take (k) (by omega)) HCP.out (by rw [HLen.out]; omega) (by rw [HLen.out]; unfold maxLen; omega) HB.out.size ?_
      intro v2 w2 hv hg hb
      refine hK _ _ (AnyW.any _ _) ?_
      clear hK K
      try simp only [Act.put, List.setIfInBounds_toArray, List.set_cons_zero, List.set_cons_succ]
      have HB := hid (HB.out.of_grown hg (fun k hk => .inr (V1.out.lt k hk).1)); have V2 := hid hv; clear hv hg hb V1
      refine rgn.Walk.ys (v := ?_) rfl rfl rfl ?_ ?_
      rotate_left 1
      · intro W' hW'
        go_simp
        try with_reducible rfl
      try simp only [Act.put, List.setIfInBounds_toArray, List.set_cons_zero, List.set_cons_succ]
      refine rgn.Walk.ys (v := ?_) rfl rfl rfl ?_ ?_
      rotate_left 1
      · intro W' hW'
        go_simp
        try with_reducible rfl
      try simp only [Act.put, List.setIfInBounds_toArray, List.set_cons_zero, List.set_cons_succ]
      refine rgn.Walk.es ?_
      refine rgn.stepE rfl rfl (fun K hK => ?_)
      have qq : World.cell? _ ⟨g, 1, none⟩ = some (.slice A n c) := (HR.out.only HB.out (by simp)).cell 1
      have ff := (HR.out.only HB.out (by simp)).frozen 1
      obtain ⟨A2, cap2, ev2, hc2, hm2, r2, hb2⟩ := V2.out.slice
      have hal : (l ++ p.take (k)).length = n + (k) := by rw [List.length_append, HLen.out, List.length_take, HP.out.len]; omega
      rw [hal] at ev2 hc2 r2
      clear hal
      rw [ev2]
      go_simp
      refine hK _ _ (AnyW.any _ _) ?_
      clear hK K qq ff
      try simp only [Act.put, List.setIfInBounds_toArray, List.set_cons_zero, List.set_cons_succ]
      have EV2 := hid ev2; have HC2 := hid hc2; have HM2 := hid hm2; have R2 := hid r2; have HB2 := hid hb2; clear ev2 hc2 hm2 r2 hb2
      refine rgn.Walk.zs (NoPanic.normal ?_)
      have HR2 := hid ((HR.out.only HB.out (by simp)).set 1 (.slice A2 (n + (k)) cap2))
      have R3 := hid (R2.out.setFar (p := ⟨g, 1, none⟩) (.slice A2 (n + (k)) cap2) (fun b off e => by have := (V2.out.lt b (HB2.out b off e)).1; show b ≠ g; omega))
      have HB3 := hid ((HB.out.more (S' := [g]) (by simp)).setCell (p := ⟨g, 1, none⟩) (.inl (by simp)) (.slice A2 (n + (k)) cap2))
      have HNC : Hid (A2 = none → cap2 = 0) := hid (own_notNil V2.out EV2.out)
      have HFL : Hid (A2 = none ∨ ∃ b off, A2 = some ⟨b, off, none⟩) := hid (own_flat V2.out EV2.out)
      have HNB : Hid (∀ b off, A2 = some ⟨b, off, none⟩ → w.heap.size ≤ b) := hid (fun b off e => (V2.out.lt b (HB2.out b off e)).1)
      go_wp2
      go_ret
      refine ⟨rfl, A2, cap2, ?_, R3.out, HNC.out, HC2.out, HM2.out, HNB.out, HFL.out, HB3.out⟩
      have := HR2.out
      simpa [EObj] using this
    · refine rgn.stepE rfl rfl (fun K hK => ?_)
      have qq : World.cell? _ ⟨g, 1, none⟩ = some (.slice A n c) := (HR.out.only HB.out (by simp)).cell 1
      go_simp
      refine hK _ _ (AnyW.any _ _) ?_
      clear hK K qq
      try simp only [Act.put, List.setIfInBounds_toArray, List.set_cons_zero, List.set_cons_succ]
      refine rgn.Walk.es ?_
      refine rgn.stepE rfl rfl (fun K hK => ?_)
      go_simp
      refine hK _ _ (AnyW.any _ _) ?_
      clear hK K
      try simp only [Act.put, List.setIfInBounds_toArray, List.set_cons_zero, List.set_cons_succ]
      have V0 : Hid (Own .u8 5 _ w.heap.size _ []) := hid (Own.lit .u8 5 _ w.heap.size [] #[] 0 rfl rfl HB.out.size (by simp) (by simp)); have HB := hid (HB.out.alloc (.cells #[] 5))
      refine rgn.Walk.es ?_
      refine rgn.stepE rfl rfl (fun K hK => ?_)
      refine opApp rfl (.tmp 20) (.tmp 24) _ rfl hlp.elemB w.heap.size _ [] rfl V0.out A n c l rfl (HL.out.only_nil HB.out) HC.out (by simp; omega) (by unfold maxLen; simp; omega) HB.out.size ?_
      intro v1 w1 hv hg hb
      refine hK _ _ (AnyW.any _ _) ?_
      clear hK K
      try simp only [Act.put, List.setIfInBounds_toArray, List.set_cons_zero, List.set_cons_succ]
      have HB := hid (HB.out.of_grown hg (fun k hk => .inr (V0.out.lt k hk).1)); have V1 : Hid (Own .u8 5 w1 w.heap.size v1 l) := hid hv; clear hv hg hb V0
      refine rgn.Walk.es ?_
      refine rgn.stepE rfl rfl (fun K hK => ?_)
      refine opApp rfl (.tmp 25) (.tmp 28) _ rfl hlp.elemB w.heap.size _ l rfl V1.out AP (k) cP (p.take (k)) rfl ((HP.out.only_nil HB.out).take (k) (by omega)) HCP.out (by rw [HLen.out]; omega) (by rw [HLen.out]; unfold maxLen; omega) HB.out.size ?_
      intro v2 w2 hv hg hb
      refine hK _ _ (AnyW.any _ _) ?_
      clear hK K
      try simp only [Act.put, List.setIfInBounds_toArray, List.set_cons_zero, List.set_cons_succ]
      have HB := hid (HB.out.of_grown hg (fun k hk => .inr (V1.out.lt k hk).1)); have V2 := hid hv; clear hv hg hb V1
      refine rgn.Walk.ys (v := ?_) rfl rfl rfl ?_ ?_
      rotate_left 1
      · intro W' hW'
        go_simp
        try with_reducible rfl
      try simp only [Act.put, List.setIfInBounds_toArray, List.set_cons_zero, List.set_cons_succ]
      refine rgn.Walk.ys (v := ?_) rfl rfl rfl ?_ ?_
      rotate_left 1
      · intro W' hW'
        go_simp
        try with_reducible rfl
      try simp only [Act.put, List.setIfInBounds_toArray, List.set_cons_zero, List.set_cons_succ]
      refine rgn.Walk.es ?_
      refine rgn.stepE rfl rfl (fun K hK => ?_)
      have qq : World.cell? _ ⟨g, 1, none⟩ = some (.slice A n c) := (HR.out.only HB.out (by simp)).cell 1
      have ff := (HR.out.only HB.out (by simp)).frozen 1
      obtain ⟨A2, cap2, ev2, hc2, hm2, r2, hb2⟩ := V2.out.slice
      have hal : (l ++ p.take (k)).length = n + (k) := by rw [List.length_append, HLen.out, List.length_take, HP.out.len]; omega
      rw [hal] at ev2 hc2 r2
      clear hal
      rw [ev2]
      go_simp
      refine hK _ _ (AnyW.any _ _) ?_
      clear hK K qq ff
      try simp only [Act.put, List.setIfInBounds_toArray, List.set_cons_zero, List.set_cons_succ]
      have EV2 := hid ev2; have HC2 := hid hc2; have HM2 := hid hm2; have R2 := hid r2; have HB2 := hid hb2; clear ev2 hc2 hm2 r2 hb2
      refine rgn.Walk.zs (NoPanic.normal ?_)
      have HR2 := hid ((HR.out.only HB.out (by simp)).set 1 (.slice A2 (n + (k)) cap2))
      have R3 := hid (R2.out.setFar (p := ⟨g, 1, none⟩) (.slice A2 (n + (k)) cap2) (fun b off e => by have := (V2.out.lt b (HB2.out b off e)).1; show b ≠ g; omega))
      have HB3 := hid ((HB.out.more (S' := [g]) (by simp)).setCell (p := ⟨g, 1, none⟩) (.inl (by simp)) (.slice A2 (n + (k)) cap2))
      have HNC : Hid (A2 = none → cap2 = 0) := hid (own_notNil V2.out EV2.out)
      have HFL : Hid (A2 = none ∨ ∃ b off, A2 = some ⟨b, off, none⟩) := hid (own_flat V2.out EV2.out)
      have HNB : Hid (∀ b off, A2 = some ⟨b, off, none⟩ → w.heap.size ≤ b) := hid (fun b off e => (V2.out.lt b (HB2.out b off e)).1)
      go_wp2
      go_ret
      refine ⟨rfl, A2, cap2, ?_, R3.out, HNC.out, HC2.out, HM2.out, HNB.out, HFL.out, HB3.out⟩
      have := HR2.out
      simpa [EObj] using this
set_option maxHeartbeats 1000000 in
theorem epeek (w : World) (g N : Nat) (A : Option Addr) (n c : Nat) (l : List Int) (a m : Int) (H : EObj w g N A n c) (hl : Rd .u8 w A n l) (hc0 : A = none → c = 0) (hnc : n ≤ c) (hn : n ≤ 1048560) (hcm : c ≤ maxLen)
    (ha : -9223372036854775808 ≤ a ∧ a ≤ 9223372036854775807) (hm : -9223372036854775808 ≤ m ∧ m ≤ 9223372036854775807) :
    Calls Try.prog 19 #[.pointer (some ⟨g, 0, none⟩), .int .i64 a, .int .i64 m] w (PEnd w (peekL l a m)) := by
  have c1 : w.cell? ⟨g, 1, none⟩ = some (.slice A n c) := H.cell 1
  have hlt := H.lt
  have HR := hid H; have HL := hid hl; have HC := hid hc0
  have HLen := hid hl.len
  have HB : Hid (Only [] w w) := hid (Only.refl [] w)
  clear H hl hc0
  have HNIL : Hid (Own .u8 5 w w.heap.size (.slice none 0 0) []) := hid (Own.nil _ _ _ _)
  by_cases h1 : a < 0
  · have HE : Hid (peekL l a m = []) := hid (by unfold peekL; rw [if_pos (.inl h1)])
    go_enter Try.func19, Try.ntmps19
    go_wp2
    go_ret
    exact ⟨_, rfl, by rw [HE.out]; exact HNIL.out, HB.out⟩
  · by_cases h2 : m < 0
    · have HE : Hid (peekL l a m = []) := hid (by unfold peekL; rw [if_pos (.inr (by omega))])
      go_enter Try.func19, Try.ntmps19
      go_wp2
      go_ret
      exact ⟨_, rfl, by rw [HE.out]; exact HNIL.out, HB.out⟩
    · by_cases h3 : a > n
      · have HE : Hid (peekL l a m = []) := hid (by
          unfold peekL
          split
          · rfl
          · rw [List.drop_eq_nil_of_le (by rw [HLen.out]; omega)]; simp)
        go_enter Try.func19, Try.ntmps19
        go_wp2
        go_ret
        exact ⟨_, rfl, by rw [HE.out]; exact HNIL.out, HB.out⟩
      · obtain ⟨i, rfl⟩ : ∃ i : Nat, a = (i : Int) := ⟨a.toNat, by omega⟩
        by_cases h0 : n = 0
        · have HE : Hid (peekL l i m = []) := hid (by
            unfold peekL
            split
            · rfl
            · rw [List.drop_eq_nil_of_le (by rw [HLen.out]; omega)]; simp)
          obtain rfl : i = 0 := by omega
          subst h0
          have HE0 : Hid (peekL l 0 m = []) := hid (by simpa using HE.out)
          by_cases hm0 : m = 0
          · subst hm0
            obtain ⟨A2, c2, hA2⟩ : ∃ A2 c2, (∀ W : World, (Instr.slice 32 (.slice A 0 c) (some (.int .i64 0)) (some (.int .i64 0)) none).run Try.prog W = .ok (.slice A2 0 c2) W) ∧ (A2 = none → c2 = 0) := by
              rcases A with _ | ad
              · have := HC.out rfl
                subst this
                refine ⟨none, 0, fun W => ?_, fun _ => rfl⟩
                go_simp
              · refine ⟨if c = 0 then some ad else some (ad.add 0), c, fun W => ?_, fun h => by split at h <;> cases h⟩
                go_simp
            obtain ⟨hA2, hC2⟩ := hA2
            have HC2 := hid hC2; clear hC2
            go_enter Try.func19, Try.ntmps19
            go_wp2_with fail
            refine wp_region_noPanic ?_
            refine rgn.regionT (R := Same g) (by kernel_rfl) (Same.refl g) (Same.trans (g := g)) (fun _ _ _ _ _ h => h) (.y 1 (.y 2 (.y 3 (.y 4 (.y 5 (.y 6 (.y 7 (.y 8 (.y 9 (.y 10 (.y 11 (.y 12 (.y 13 (.y 14 (.y 15 (.y 16 (.y 17 (.e 0 (.e 18 (.e 19 .z)))))))))))))))))))) (by kernel_rfl) (fun W hWd => ?_)
            have HWd := hid hWd; clear hWd
            have HB := hid (Only.eq_drew HB.out HWd.out)
            refine rgn.Walk.ys (v := ?_) rfl rfl rfl ?_ ?_
            rotate_left 1
            · intro W' hW'
              go_simp
              try with_reducible rfl
            try simp only [Act.put, List.setIfInBounds_toArray, List.set_cons_zero, List.set_cons_succ]
            refine rgn.Walk.ys (v := ?_) rfl rfl rfl ?_ ?_
            rotate_left 1
            · intro W' hW'
              go_simp
              try with_reducible rfl
            try simp only [Act.put, List.setIfInBounds_toArray, List.set_cons_zero, List.set_cons_succ]
            refine rgn.Walk.ys (v := ?_) rfl rfl rfl ?_ ?_
            rotate_left 1
            · intro W' hW'
              go_simp
              try with_reducible rfl
            try simp only [Act.put, List.setIfInBounds_toArray, List.set_cons_zero, List.set_cons_succ]
            refine rgn.Walk.ys (v := ?_) rfl rfl rfl ?_ ?_
            rotate_left 1
            · intro W' hW'
              have q0 := (show W'.cell? ⟨g, 1, none⟩ = some (.slice A 0 c) from ((HR.out.only HB.out (by simp)).same hW').cell 1)
              go_simp
              try with_reducible rfl
            try simp only [Act.put, List.setIfInBounds_toArray, List.set_cons_zero, List.set_cons_succ]
            refine rgn.Walk.ys (v := ?_) rfl rfl rfl ?_ ?_
            rotate_left 1
            · intro W' hW'
              go_simp
              try with_reducible rfl
            try simp only [Act.put, List.setIfInBounds_toArray, List.set_cons_zero, List.set_cons_succ]
            refine rgn.Walk.ys (v := ?_) rfl rfl rfl ?_ ?_
            rotate_left 1
            · intro W' hW'
              go_simp
              try with_reducible rfl
            try simp only [Act.put, List.setIfInBounds_toArray, List.set_cons_zero, List.set_cons_succ]
            refine rgn.Walk.ys (v := ?_) rfl rfl rfl ?_ ?_
            rotate_left 1
            · intro W' hW'
              go_simp
              try with_reducible rfl
            try simp only [Act.put, List.setIfInBounds_toArray, List.set_cons_zero, List.set_cons_succ]
            refine rgn.Walk.ys (v := ?_) rfl rfl rfl ?_ ?_
            rotate_left 1
            · intro W' hW'
              go_simp
              try with_reducible rfl
            try simp only [Act.put, List.setIfInBounds_toArray, List.set_cons_zero, List.set_cons_succ]
            refine rgn.Walk.ys (v := ?_) rfl rfl rfl ?_ ?_
            rotate_left 1
            · intro W' hW'
              go_simp
              try with_reducible rfl
            try simp only [Act.put, List.setIfInBounds_toArray, List.set_cons_zero, List.set_cons_succ]
            refine rgn.Walk.ys (v := ?_) rfl rfl rfl ?_ ?_
            rotate_left 1
            · intro W' hW'
              go_simp
              try with_reducible rfl
            try simp only [Act.put, List.setIfInBounds_toArray, List.set_cons_zero, List.set_cons_succ]
            refine rgn.Walk.ys (v := ?_) rfl rfl rfl ?_ ?_
            rotate_left 1
            · intro W' hW'
              have q0 := (show W'.cell? ⟨g, 1, none⟩ = some (.slice A 0 c) from ((HR.out.only HB.out (by simp)).same hW').cell 1)
              go_simp
              try with_reducible rfl
            try simp only [Act.put, List.setIfInBounds_toArray, List.set_cons_zero, List.set_cons_succ]
            refine rgn.Walk.ys (v := ?_) rfl rfl rfl ?_ ?_
            rotate_left 1
            · intro W' hW'
              go_simp
              try with_reducible rfl
            try simp only [Act.put, List.setIfInBounds_toArray, List.set_cons_zero, List.set_cons_succ]
            refine rgn.Walk.ys (v := ?_) rfl rfl rfl ?_ ?_
            rotate_left 1
            · intro W' hW'
              go_simp
              try with_reducible rfl
            try simp only [Act.put, List.setIfInBounds_toArray, List.set_cons_zero, List.set_cons_succ]
            refine rgn.Walk.ys (v := ?_) rfl rfl rfl ?_ ?_
            rotate_left 1
            · intro W' hW'
              go_simp
              try rw [i64_in _ (by omega)]
              try with_reducible rfl
            try simp only [Act.put, List.setIfInBounds_toArray, List.set_cons_zero, List.set_cons_succ]
            refine rgn.Walk.ys (v := ?_) rfl rfl rfl ?_ ?_
            rotate_left 1
            · intro W' hW'
              go_simp
              try rw [if_pos (by omega)]
              try with_reducible rfl
            try simp only [Act.put, List.setIfInBounds_toArray, List.set_cons_zero, List.set_cons_succ]
            refine rgn.Walk.ys (v := ?_) rfl rfl rfl ?_ ?_
            rotate_left 1
            · intro W' hW'
              go_simp
              try rw [i64_in _ (by omega)]
              try with_reducible rfl
            try simp only [Act.put, List.setIfInBounds_toArray, List.set_cons_zero, List.set_cons_succ]
            refine rgn.Walk.ys (v := ?_) rfl rfl rfl ?_ ?_
            rotate_left 1
            · intro W' hW'
              go_simp
              try with_reducible rfl
            try simp only [Act.put, List.setIfInBounds_toArray, List.set_cons_zero, List.set_cons_succ]
            refine rgn.Walk.es ?_
            refine rgn.stepE rfl rfl (fun K hK => ?_)
            go_simp
            refine hK _ _ (Same.alloc _ (by have := HB.out.size; omega)) ?_
            clear hK K
            try simp only [Act.put, List.setIfInBounds_toArray, List.set_cons_zero, List.set_cons_succ]
            have V0 : Hid (Own .u8 5 _ w.heap.size _ []) := hid (Own.lit .u8 5 _ w.heap.size [] #[] 0 rfl rfl HB.out.size (by simp) (by simp)); have HB := hid (HB.out.alloc (.cells #[] 5))
            refine rgn.Walk.es ?_
            refine rgn.stepE rfl rfl (fun K hK => ?_)
            refine opApp rfl (.tmp 22) (.tmp 39) _ rfl hlp.elemB w.heap.size _ [] rfl V0.out A2 0 c2 [] (by go_simp <;> first | rfl | (congr 1 <;> omega)) (Rd.nil _ _ _) HC2.out (by simp) (by unfold maxLen; simp) HB.out.size ?_
            intro v1 w1 hv hg hb
            refine hK _ _ (Same.grown hg (by have := HB.out.size; omega) (fun e => by have := (V0.out.lt _ e).1; omega)) ?_
            clear hK K
            try simp only [Act.put, List.setIfInBounds_toArray, List.set_cons_zero, List.set_cons_succ]
            have HB := hid (HB.out.of_grown hg (fun k hk => .inr (V0.out.lt k hk).1)); have V1 : Hid (Own .u8 5 w1 w.heap.size v1 []) := hid hv; clear hv hg hb V0
            refine rgn.Walk.es ?_
            refine rgn.stepE rfl rfl (fun K hK => ?_)
            go_simp
            refine hK _ _ ((Same.refl g) _) ?_
            clear hK K
            try simp only [Act.put, List.setIfInBounds_toArray, List.set_cons_zero, List.set_cons_succ]
            refine rgn.Walk.zs (NoPanic.normal ?_)
            go_wp2
            all_goals go_ret
            all_goals exact ⟨_, rfl, by first | (rw [HE0.out]; exact V1.out) | (rw [HE.out]; exact V1.out), HB.out⟩
          · have hm1 : 0 < m := by omega
            obtain ⟨A2, c2, hA2⟩ : ∃ A2 c2, (∀ W : World, (Instr.slice 32 (.slice A 0 c) (some (.int .i64 0)) (some (.int .i64 0)) none).run Try.prog W = .ok (.slice A2 0 c2) W) ∧ (A2 = none → c2 = 0) := by
              rcases A with _ | ad
              · have := HC.out rfl
                subst this
                refine ⟨none, 0, fun W => ?_, fun _ => rfl⟩
                go_simp
              · refine ⟨if c = 0 then some ad else some (ad.add 0), c, fun W => ?_, fun h => by split at h <;> cases h⟩
                go_simp
            obtain ⟨hA2, hC2⟩ := hA2
            have HC2 := hid hC2; clear hC2
            go_enter Try.func19, Try.ntmps19
            go_wp2_with fail
            refine wp_region_noPanic ?_
            refine rgn.regionT (R := Same g) (by kernel_rfl) (Same.refl g) (Same.trans (g := g)) (fun _ _ _ _ _ h => h) (.y 1 (.y 2 (.y 3 (.y 4 (.y 5 (.y 6 (.y 7 (.y 8 (.y 9 (.y 10 (.y 11 (.y 12 (.y 13 (.y 14 (.y 15 (.y 16 (.y 17 (.e 0 (.e 18 (.e 19 .z)))))))))))))))))))) (by kernel_rfl) (fun W hWd => ?_)
            have HWd := hid hWd; clear hWd
            have HB := hid (Only.eq_drew HB.out HWd.out)
            refine rgn.Walk.ys (v := ?_) rfl rfl rfl ?_ ?_
            rotate_left 1
            · intro W' hW'
              go_simp
              try with_reducible rfl
            try simp only [Act.put, List.setIfInBounds_toArray, List.set_cons_zero, List.set_cons_succ]
            refine rgn.Walk.ys (v := ?_) rfl rfl rfl ?_ ?_
            rotate_left 1
            · intro W' hW'
              go_simp
              try with_reducible rfl
            try simp only [Act.put, List.setIfInBounds_toArray, List.set_cons_zero, List.set_cons_succ]
            refine rgn.Walk.ys (v := ?_) rfl rfl rfl ?_ ?_
            rotate_left 1
            · intro W' hW'
              go_simp
              try with_reducible rfl
            try simp only [Act.put, List.setIfInBounds_toArray, List.set_cons_zero, List.set_cons_succ]
            refine rgn.Walk.ys (v := ?_) rfl rfl rfl ?_ ?_
            rotate_left 1
            · intro W' hW'
              have q0 := (show W'.cell? ⟨g, 1, none⟩ = some (.slice A 0 c) from ((HR.out.only HB.out (by simp)).same hW').cell 1)
              go_simp
              try with_reducible rfl
            try simp only [Act.put, List.setIfInBounds_toArray, List.set_cons_zero, List.set_cons_succ]
            refine rgn.Walk.ys (v := ?_) rfl rfl rfl ?_ ?_
            rotate_left 1
            · intro W' hW'
              go_simp
              try with_reducible rfl
            try simp only [Act.put, List.setIfInBounds_toArray, List.set_cons_zero, List.set_cons_succ]
            refine rgn.Walk.ys (v := ?_) rfl rfl rfl ?_ ?_
            rotate_left 1
            · intro W' hW'
              go_simp
              try with_reducible rfl
            try simp only [Act.put, List.setIfInBounds_toArray, List.set_cons_zero, List.set_cons_succ]
            refine rgn.Walk.ys (v := ?_) rfl rfl rfl ?_ ?_
            rotate_left 1
            · intro W' hW'
              go_simp
              try with_reducible rfl
            try simp only [Act.put, List.setIfInBounds_toArray, List.set_cons_zero, List.set_cons_succ]
            refine rgn.Walk.ys (v := ?_) rfl rfl rfl ?_ ?_
            rotate_left 1
            · intro W' hW'
              go_simp
              try with_reducible rfl
            try simp only [Act.put, List.setIfInBounds_toArray, List.set_cons_zero, List.set_cons_succ]
            refine rgn.Walk.ys (v := ?_) rfl rfl rfl ?_ ?_
            rotate_left 1
            · intro W' hW'
              go_simp
              try with_reducible rfl
            try simp only [Act.put, List.setIfInBounds_toArray, List.set_cons_zero, List.set_cons_succ]
            refine rgn.Walk.ys (v := ?_) rfl rfl rfl ?_ ?_
            rotate_left 1
            · intro W' hW'
              go_simp
              try with_reducible rfl
            try simp only [Act.put, List.setIfInBounds_toArray, List.set_cons_zero, List.set_cons_succ]
            refine rgn.Walk.ys (v := ?_) rfl rfl rfl ?_ ?_
            rotate_left 1
            · intro W' hW'
              have q0 := (show W'.cell? ⟨g, 1, none⟩ = some (.slice A 0 c) from ((HR.out.only HB.out (by simp)).same hW').cell 1)
              go_simp
              try with_reducible rfl
            try simp only [Act.put, List.setIfInBounds_toArray, List.set_cons_zero, List.set_cons_succ]
            refine rgn.Walk.ys (v := ?_) rfl rfl rfl ?_ ?_
            rotate_left 1
            · intro W' hW'
              go_simp
              try with_reducible rfl
            try simp only [Act.put, List.setIfInBounds_toArray, List.set_cons_zero, List.set_cons_succ]
            refine rgn.Walk.ys (v := ?_) rfl rfl rfl ?_ ?_
            rotate_left 1
            · intro W' hW'
              go_simp
              try with_reducible rfl
            try simp only [Act.put, List.setIfInBounds_toArray, List.set_cons_zero, List.set_cons_succ]
            refine rgn.Walk.ys (v := ?_) rfl rfl rfl ?_ ?_
            rotate_left 1
            · intro W' hW'
              go_simp
              try rw [i64_in _ (by omega)]
              try with_reducible rfl
            try simp only [Act.put, List.setIfInBounds_toArray, List.set_cons_zero, List.set_cons_succ]
            refine rgn.Walk.ys (v := ?_) rfl rfl rfl ?_ ?_
            rotate_left 1
            · intro W' hW'
              go_simp
              try rw [if_pos (by omega)]
              try with_reducible rfl
            try simp only [Act.put, List.setIfInBounds_toArray, List.set_cons_zero, List.set_cons_succ]
            refine rgn.Walk.ys (v := ?_) rfl rfl rfl ?_ ?_
            rotate_left 1
            · intro W' hW'
              go_simp
              try rw [i64_in _ (by omega)]
              try with_reducible rfl
            try simp only [Act.put, List.setIfInBounds_toArray, List.set_cons_zero, List.set_cons_succ]
            refine rgn.Walk.ys (v := ?_) rfl rfl rfl ?_ ?_
            rotate_left 1
            · intro W' hW'
              go_simp
              try with_reducible rfl
            try simp only [Act.put, List.setIfInBounds_toArray, List.set_cons_zero, List.set_cons_succ]
            refine rgn.Walk.es ?_
            refine rgn.stepE rfl rfl (fun K hK => ?_)
            go_simp
            refine hK _ _ (Same.alloc _ (by have := HB.out.size; omega)) ?_
            clear hK K
            try simp only [Act.put, List.setIfInBounds_toArray, List.set_cons_zero, List.set_cons_succ]
            have V0 : Hid (Own .u8 5 _ w.heap.size _ []) := hid (Own.lit .u8 5 _ w.heap.size [] #[] 0 rfl rfl HB.out.size (by simp) (by simp)); have HB := hid (HB.out.alloc (.cells #[] 5))
            refine rgn.Walk.es ?_
            refine rgn.stepE rfl rfl (fun K hK => ?_)
            refine opApp rfl (.tmp 22) (.tmp 39) _ rfl hlp.elemB w.heap.size _ [] rfl V0.out A2 0 c2 [] (by go_simp <;> first | rfl | (congr 1 <;> omega)) (Rd.nil _ _ _) HC2.out (by simp) (by unfold maxLen; simp) HB.out.size ?_
            intro v1 w1 hv hg hb
            refine hK _ _ (Same.grown hg (by have := HB.out.size; omega) (fun e => by have := (V0.out.lt _ e).1; omega)) ?_
            clear hK K
            try simp only [Act.put, List.setIfInBounds_toArray, List.set_cons_zero, List.set_cons_succ]
            have HB := hid (HB.out.of_grown hg (fun k hk => .inr (V0.out.lt k hk).1)); have V1 : Hid (Own .u8 5 w1 w.heap.size v1 []) := hid hv; clear hv hg hb V0
            refine rgn.Walk.es ?_
            refine rgn.stepE rfl rfl (fun K hK => ?_)
            go_simp
            refine hK _ _ ((Same.refl g) _) ?_
            clear hK K
            try simp only [Act.put, List.setIfInBounds_toArray, List.set_cons_zero, List.set_cons_succ]
            refine rgn.Walk.zs (NoPanic.normal ?_)
            go_wp2
            all_goals go_ret
            all_goals exact ⟨_, rfl, by first | (rw [HE0.out]; exact V1.out) | (rw [HE.out]; exact V1.out), HB.out⟩
        · obtain ⟨bl, ol, rfl, hbl, _⟩ := HL.out.at_ (by omega)
          by_cases hmn : m ≤ (n : Int) - i
          · obtain ⟨k, rfl⟩ : ∃ k : Nat, m = (k : Int) := ⟨m.toNat, by omega⟩
            have hmi : ¬ ((n : Int) - i < k) := by omega
            have hki : i + k ≤ n := by omega
            have HE : Hid (peekL l i k = (l.drop i).take k) := hid (by
              unfold peekL
              split
              · rw [show k = 0 from by omega]; simp
              · simp)
            have HPD : Hid (∀ W : World, Rd .u8 W (some ⟨bl, ol, none⟩) n l → Rd .u8 W (if c = i then some ⟨bl, ol, none⟩ else some ⟨bl, ol + i, none⟩) k ((l.drop i).take k)) := hid (fun W h => by
              split
              · rw [show k = 0 from by omega]; exact Rd.nil _ _ _
              · exact (h.drop i (by omega)).take k (by omega))
            clear hmn
            go_enter Try.func19, Try.ntmps19
            go_wp2_with fail
            refine wp_region_noPanic ?_
            refine rgn.regionT (R := Same g) (by kernel_rfl) (Same.refl g) (Same.trans (g := g)) (fun _ _ _ _ _ h => h) (.y 1 (.y 2 (.y 3 (.y 4 (.y 5 (.y 6 (.y 7 (.y 8 (.y 9 (.y 10 (.y 11 (.y 12 (.y 13 (.y 14 (.y 15 (.y 16 (.y 17 (.e 0 (.e 18 (.e 19 .z)))))))))))))))))))) (by kernel_rfl) (fun W hWd => ?_)
            have HWd := hid hWd; clear hWd
            have HB := hid (Only.eq_drew HB.out HWd.out)
            refine rgn.Walk.ys (v := ?_) rfl rfl rfl ?_ ?_
            rotate_left 1
            · intro W' hW'
              go_simp
              try with_reducible rfl
            try simp only [Act.put, List.setIfInBounds_toArray, List.set_cons_zero, List.set_cons_succ]
            refine rgn.Walk.ys (v := ?_) rfl rfl rfl ?_ ?_
            rotate_left 1
            · intro W' hW'
              go_simp
              try with_reducible rfl
            try simp only [Act.put, List.setIfInBounds_toArray, List.set_cons_zero, List.set_cons_succ]
            refine rgn.Walk.ys (v := ?_) rfl rfl rfl ?_ ?_
            rotate_left 1
            · intro W' hW'
              go_simp
              try with_reducible rfl
            try simp only [Act.put, List.setIfInBounds_toArray, List.set_cons_zero, List.set_cons_succ]
            refine rgn.Walk.ys (v := ?_) rfl rfl rfl ?_ ?_
            rotate_left 1
            · intro W' hW'
              have q0 := (show W'.cell? ⟨g, 1, none⟩ = some (.slice (some ⟨bl, ol, none⟩) n c) from ((HR.out.only HB.out (by simp)).same hW').cell 1)
              go_simp
              try with_reducible rfl
            try simp only [Act.put, List.setIfInBounds_toArray, List.set_cons_zero, List.set_cons_succ]
            refine rgn.Walk.ys (v := ?_) rfl rfl rfl ?_ ?_
            rotate_left 1
            · intro W' hW'
              go_simp
              try with_reducible rfl
            try simp only [Act.put, List.setIfInBounds_toArray, List.set_cons_zero, List.set_cons_succ]
            refine rgn.Walk.ys (v := ?_) rfl rfl rfl ?_ ?_
            rotate_left 1
            · intro W' hW'
              go_simp
              try with_reducible rfl
            try simp only [Act.put, List.setIfInBounds_toArray, List.set_cons_zero, List.set_cons_succ]
            refine rgn.Walk.ys (v := ?_) rfl rfl rfl ?_ ?_
            rotate_left 1
            · intro W' hW'
              go_simp
              try with_reducible rfl
            try simp only [Act.put, List.setIfInBounds_toArray, List.set_cons_zero, List.set_cons_succ]
            refine rgn.Walk.ys (v := ?_) rfl rfl rfl ?_ ?_
            rotate_left 1
            · intro W' hW'
              go_simp
              try with_reducible rfl
            try simp only [Act.put, List.setIfInBounds_toArray, List.set_cons_zero, List.set_cons_succ]
            refine rgn.Walk.ys (v := ?_) rfl rfl rfl ?_ ?_
            rotate_left 1
            · intro W' hW'
              go_simp
              try with_reducible rfl
            try simp only [Act.put, List.setIfInBounds_toArray, List.set_cons_zero, List.set_cons_succ]
            refine rgn.Walk.ys (v := ?_) rfl rfl rfl ?_ ?_
            rotate_left 1
            · intro W' hW'
              go_simp
              try with_reducible rfl
            try simp only [Act.put, List.setIfInBounds_toArray, List.set_cons_zero, List.set_cons_succ]
            refine rgn.Walk.ys (v := ?_) rfl rfl rfl ?_ ?_
            rotate_left 1
            · intro W' hW'
              have q0 := (show W'.cell? ⟨g, 1, none⟩ = some (.slice (some ⟨bl, ol, none⟩) n c) from ((HR.out.only HB.out (by simp)).same hW').cell 1)
              go_simp
              try with_reducible rfl
            try simp only [Act.put, List.setIfInBounds_toArray, List.set_cons_zero, List.set_cons_succ]
            refine rgn.Walk.ys (v := ?_) rfl rfl rfl ?_ ?_
            rotate_left 1
            · intro W' hW'
              go_simp
              try with_reducible rfl
            try simp only [Act.put, List.setIfInBounds_toArray, List.set_cons_zero, List.set_cons_succ]
            refine rgn.Walk.ys (v := ?_) rfl rfl rfl ?_ ?_
            rotate_left 1
            · intro W' hW'
              go_simp
              try with_reducible rfl
            try simp only [Act.put, List.setIfInBounds_toArray, List.set_cons_zero, List.set_cons_succ]
            refine rgn.Walk.ys (v := ?_) rfl rfl rfl ?_ ?_
            rotate_left 1
            · intro W' hW'
              go_simp
              try rw [i64_in _ (by omega)]
              try with_reducible rfl
            try simp only [Act.put, List.setIfInBounds_toArray, List.set_cons_zero, List.set_cons_succ]
            refine rgn.Walk.ys (v := ?_) rfl rfl rfl ?_ ?_
            rotate_left 1
            · intro W' hW'
              go_simp
              try rw [if_neg (by omega)]
              try with_reducible rfl
            try simp only [Act.put, List.setIfInBounds_toArray, List.set_cons_zero, List.set_cons_succ]
            refine rgn.Walk.ys (v := ?_) rfl rfl rfl ?_ ?_
            rotate_left 1
            · intro W' hW'
              go_simp
              try rw [i64_in _ (by omega)]
              try with_reducible rfl
            try simp only [Act.put, List.setIfInBounds_toArray, List.set_cons_zero, List.set_cons_succ]
            refine rgn.Walk.ys (v := ?_) rfl rfl rfl ?_ ?_
            rotate_left 1
            · intro W' hW'
              go_simp
              try rw [if_pos (by omega), if_pos (by omega)]
              try rw [if_pos (by omega)]
              try rw [show ((i : Int) + (k : Nat)).toNat - i = k from by omega]
              try rw [show i + k - i = k from by omega]
              try with_reducible rfl
            try simp only [Act.put, List.setIfInBounds_toArray, List.set_cons_zero, List.set_cons_succ]
            refine rgn.Walk.es ?_
            refine rgn.stepE rfl rfl (fun K hK => ?_)
            go_simp
            refine hK _ _ (Same.alloc _ (by have := HB.out.size; omega)) ?_
            clear hK K
            try simp only [Act.put, List.setIfInBounds_toArray, List.set_cons_zero, List.set_cons_succ]
            have V0 : Hid (Own .u8 5 _ w.heap.size _ []) := hid (Own.lit .u8 5 _ w.heap.size [] #[] 0 rfl rfl HB.out.size (by simp) (by simp)); have HB := hid (HB.out.alloc (.cells #[] 5))
            refine rgn.Walk.es ?_
            refine rgn.stepE rfl rfl (fun K hK => ?_)
            refine opApp rfl (.tmp 22) (.tmp 39) _ rfl hlp.elemB w.heap.size _ [] rfl V0.out (if c = i then some ⟨bl, ol, none⟩ else some ⟨bl, ol + i, none⟩) k (c - i) ((l.drop i).take k) (by go_simp <;> first | rfl | (congr 1 <;> omega)) (HPD.out _ (HL.out.only_nil HB.out)) (by intro hh; split at hh <;> cases hh) (by simp; omega) (by unfold maxLen; simp; omega) HB.out.size ?_
            intro v1 w1 hv hg hb
            refine hK _ _ (Same.grown hg (by have := HB.out.size; omega) (fun e => by have := (V0.out.lt _ e).1; omega)) ?_
            clear hK K
            try simp only [Act.put, List.setIfInBounds_toArray, List.set_cons_zero, List.set_cons_succ]
            have HB := hid (HB.out.of_grown hg (fun k hk => .inr (V0.out.lt k hk).1)); have V1 : Hid (Own .u8 5 w1 w.heap.size v1 ((l.drop i).take k)) := hid hv; clear hv hg hb V0
            refine rgn.Walk.es ?_
            refine rgn.stepE rfl rfl (fun K hK => ?_)
            go_simp
            refine hK _ _ ((Same.refl g) _) ?_
            clear hK K
            try simp only [Act.put, List.setIfInBounds_toArray, List.set_cons_zero, List.set_cons_succ]
            refine rgn.Walk.zs (NoPanic.normal ?_)
            go_wp2
            all_goals go_ret
            all_goals first | exact ⟨_, rfl, by rw [HE.out]; exact V1.out, HB.out⟩ | (obtain rfl : c = i := (by omega); exact ⟨_, rfl, by rw [HE.out]; exact V1.out, HB.out⟩)
          · obtain ⟨k, hk⟩ : ∃ k : Nat, (n : Int) - i = (k : Int) := ⟨n - i, by omega⟩
            have hmi : ((k : Int) < m) := by omega
            have hki : i + k ≤ n := by omega
            have HE : Hid (peekL l i m = (l.drop i).take k) := hid (by
              unfold peekL
              split
              · rw [show k = 0 from by omega]; simp
              · rw [List.take_of_length_le (by simp [HLen.out]; omega), List.take_of_length_le (by simp [HLen.out]; omega)]; simp)
            have HPD : Hid (∀ W : World, Rd .u8 W (some ⟨bl, ol, none⟩) n l → Rd .u8 W (if c = i then some ⟨bl, ol, none⟩ else some ⟨bl, ol + i, none⟩) k ((l.drop i).take k)) := hid (fun W h => by
              split
              · rw [show k = 0 from by omega]; exact Rd.nil _ _ _
              · exact (h.drop i (by omega)).take k (by omega))
            clear hmn
            go_enter Try.func19, Try.ntmps19
            go_wp2_with fail
            refine wp_region_noPanic ?_
            refine rgn.regionT (R := Same g) (by kernel_rfl) (Same.refl g) (Same.trans (g := g)) (fun _ _ _ _ _ h => h) (.y 1 (.y 2 (.y 3 (.y 4 (.y 5 (.y 6 (.y 7 (.y 8 (.y 9 (.y 10 (.y 11 (.y 12 (.y 13 (.y 14 (.y 15 (.y 16 (.y 17 (.e 0 (.e 18 (.e 19 .z)))))))))))))))))))) (by kernel_rfl) (fun W hWd => ?_)
            have HWd := hid hWd; clear hWd
            have HB := hid (Only.eq_drew HB.out HWd.out)
            refine rgn.Walk.ys (v := ?_) rfl rfl rfl ?_ ?_
            rotate_left 1
            · intro W' hW'
              go_simp
              try with_reducible rfl
            try simp only [Act.put, List.setIfInBounds_toArray, List.set_cons_zero, List.set_cons_succ]
            refine rgn.Walk.ys (v := ?_) rfl rfl rfl ?_ ?_
            rotate_left 1
            · intro W' hW'
              go_simp
              try with_reducible rfl
            try simp only [Act.put, List.setIfInBounds_toArray, List.set_cons_zero, List.set_cons_succ]
            refine rgn.Walk.ys (v := ?_) rfl rfl rfl ?_ ?_
            rotate_left 1
            · intro W' hW'
              go_simp
              try with_reducible rfl
            try simp only [Act.put, List.setIfInBounds_toArray, List.set_cons_zero, List.set_cons_succ]
            refine rgn.Walk.ys (v := ?_) rfl rfl rfl ?_ ?_
            rotate_left 1
            · intro W' hW'
              have q0 := (show W'.cell? ⟨g, 1, none⟩ = some (.slice (some ⟨bl, ol, none⟩) n c) from ((HR.out.only HB.out (by simp)).same hW').cell 1)
              go_simp
              try with_reducible rfl
            try simp only [Act.put, List.setIfInBounds_toArray, List.set_cons_zero, List.set_cons_succ]
            refine rgn.Walk.ys (v := ?_) rfl rfl rfl ?_ ?_
            rotate_left 1
            · intro W' hW'
              go_simp
              try with_reducible rfl
            try simp only [Act.put, List.setIfInBounds_toArray, List.set_cons_zero, List.set_cons_succ]
            refine rgn.Walk.ys (v := ?_) rfl rfl rfl ?_ ?_
            rotate_left 1
            · intro W' hW'
              go_simp
              try with_reducible rfl
            try simp only [Act.put, List.setIfInBounds_toArray, List.set_cons_zero, List.set_cons_succ]
            refine rgn.Walk.ys (v := ?_) rfl rfl rfl ?_ ?_
            rotate_left 1
            · intro W' hW'
              go_simp
              try with_reducible rfl
            try simp only [Act.put, List.setIfInBounds_toArray, List.set_cons_zero, List.set_cons_succ]
            refine rgn.Walk.ys (v := ?_) rfl rfl rfl ?_ ?_
            rotate_left 1
            · intro W' hW'
              go_simp
              try with_reducible rfl
            try simp only [Act.put, List.setIfInBounds_toArray, List.set_cons_zero, List.set_cons_succ]
            refine rgn.Walk.ys (v := ?_) rfl rfl rfl ?_ ?_
            rotate_left 1
            · intro W' hW'
              go_simp
              try with_reducible rfl
            try simp only [Act.put, List.setIfInBounds_toArray, List.set_cons_zero, List.set_cons_succ]
            refine rgn.Walk.ys (v := ?_) rfl rfl rfl ?_ ?_
            rotate_left 1
            · intro W' hW'
              go_simp
              try with_reducible rfl
            try simp only [Act.put, List.setIfInBounds_toArray, List.set_cons_zero, List.set_cons_succ]
            refine rgn.Walk.ys (v := ?_) rfl rfl rfl ?_ ?_
            rotate_left 1
            · intro W' hW'
              have q0 := (show W'.cell? ⟨g, 1, none⟩ = some (.slice (some ⟨bl, ol, none⟩) n c) from ((HR.out.only HB.out (by simp)).same hW').cell 1)
              go_simp
              try with_reducible rfl
            try simp only [Act.put, List.setIfInBounds_toArray, List.set_cons_zero, List.set_cons_succ]
            refine rgn.Walk.ys (v := ?_) rfl rfl rfl ?_ ?_
            rotate_left 1
            · intro W' hW'
              go_simp
              try with_reducible rfl
            try simp only [Act.put, List.setIfInBounds_toArray, List.set_cons_zero, List.set_cons_succ]
            refine rgn.Walk.ys (v := ?_) rfl rfl rfl ?_ ?_
            rotate_left 1
            · intro W' hW'
              go_simp
              try with_reducible rfl
            try simp only [Act.put, List.setIfInBounds_toArray, List.set_cons_zero, List.set_cons_succ]
            refine rgn.Walk.ys (v := ?_) rfl rfl rfl ?_ ?_
            rotate_left 1
            · intro W' hW'
              go_simp
              try rw [i64_in _ (by omega)]
              try with_reducible rfl
            try simp only [Act.put, List.setIfInBounds_toArray, List.set_cons_zero, List.set_cons_succ]
            refine rgn.Walk.ys (v := ?_) rfl rfl rfl ?_ ?_
            rotate_left 1
            · intro W' hW'
              go_simp
              try rw [if_pos (by omega)]
              try with_reducible rfl
            try simp only [Act.put, List.setIfInBounds_toArray, List.set_cons_zero, List.set_cons_succ]
            refine rgn.Walk.ys (v := ?_) rfl rfl rfl ?_ ?_
            rotate_left 1
            · intro W' hW'
              go_simp
              try rw [i64_in _ (by omega)]
              try with_reducible rfl
            try simp only [Act.put, List.setIfInBounds_toArray, List.set_cons_zero, List.set_cons_succ]
            refine rgn.Walk.ys (v := ?_) rfl rfl rfl ?_ ?_
            rotate_left 1
            · intro W' hW'
              go_simp
              try rw [if_pos (by omega), if_pos (by omega)]
              try rw [if_pos (by omega)]
              try rw [show ((i : Int) + (k : Nat)).toNat - i = k from by omega]
              try rw [show i + k - i = k from by omega]
              try with_reducible rfl
            try simp only [Act.put, List.setIfInBounds_toArray, List.set_cons_zero, List.set_cons_succ]
            refine rgn.Walk.es ?_
            refine rgn.stepE rfl rfl (fun K hK => ?_)
            go_simp
            refine hK _ _ (Same.alloc _ (by have := HB.out.size; omega)) ?_
            clear hK K
            try simp only [Act.put, List.setIfInBounds_toArray, List.set_cons_zero, List.set_cons_succ]
            have V0 : Hid (Own .u8 5 _ w.heap.size _ []) := hid (Own.lit .u8 5 _ w.heap.size [] #[] 0 rfl rfl HB.out.size (by simp) (by simp)); have HB := hid (HB.out.alloc (.cells #[] 5))
            refine rgn.Walk.es ?_
            refine rgn.stepE rfl rfl (fun K hK => ?_)
            refine opApp rfl (.tmp 22) (.tmp 39) _ rfl hlp.elemB w.heap.size _ [] rfl V0.out (if c = i then some ⟨bl, ol, none⟩ else some ⟨bl, ol + i, none⟩) k (c - i) ((l.drop i).take k) (by go_simp <;> first | rfl | (congr 1 <;> omega)) (HPD.out _ (HL.out.only_nil HB.out)) (by intro hh; split at hh <;> cases hh) (by simp; omega) (by unfold maxLen; simp; omega) HB.out.size ?_
            intro v1 w1 hv hg hb
            refine hK _ _ (Same.grown hg (by have := HB.out.size; omega) (fun e => by have := (V0.out.lt _ e).1; omega)) ?_
            clear hK K
            try simp only [Act.put, List.setIfInBounds_toArray, List.set_cons_zero, List.set_cons_succ]
            have HB := hid (HB.out.of_grown hg (fun k hk => .inr (V0.out.lt k hk).1)); have V1 : Hid (Own .u8 5 w1 w.heap.size v1 ((l.drop i).take k)) := hid hv; clear hv hg hb V0
            refine rgn.Walk.es ?_
            refine rgn.stepE rfl rfl (fun K hK => ?_)
            go_simp
            refine hK _ _ ((Same.refl g) _) ?_
            clear hK K
            try simp only [Act.put, List.setIfInBounds_toArray, List.set_cons_zero, List.set_cons_succ]
            refine rgn.Walk.zs (NoPanic.normal ?_)
            go_wp2
            all_goals go_ret
            all_goals first | exact ⟨_, rfl, by rw [HE.out]; exact V1.out, HB.out⟩ | (obtain rfl : c = i := (by omega); exact ⟨_, rfl, by rw [HE.out]; exact V1.out, HB.out⟩)
/-- What the document's Drop leaves. -/
def EDEnd (w : World) (g N : Nat) (A : Option Addr) (m k : Nat) (l : List Int) (x : Ending) (w' : World) : Prop :=
  x = .returned (.int .i64 (k : Nat)) ∧ ∃ A' c', EObj w' g N A' (m - k) c' ∧ Rd .u8 w' A' (m - k) (l.drop k) ∧ (A' = none → c' = 0) ∧ m - k ≤ c' ∧ c' ≤ maxLen ∧ (∀ b off, A' = some ⟨b, off, none⟩ → ∃ off', A = some ⟨b, off', none⟩) ∧ (A' = none ∨ ∃ b off, A' = some ⟨b, off, none⟩) ∧ Only [g] w w'
theorem ed_some (w : World) (g N bl ol n c k : Nat) (l : List Int) (HR : EObj w g N (some ⟨bl, ol, none⟩) n c) (hl : Rd .u8 w (some ⟨bl, ol, none⟩) n l) (hk : k ≤ n) (hnc : n ≤ c) (hcm : c ≤ maxLen) (hb : 0 < n → bl ≠ g) (A' : Option Addr) (hA : A' = if c = k then some ⟨bl, ol, none⟩ else some ⟨bl, ol + k, none⟩) :
    EDEnd w g N (some ⟨bl, ol, none⟩) n k l (.returned (.int .i64 (k : Nat))) (w.setCell ⟨g, 1, none⟩ (.slice A' (n - k) (c - k))) := by
  have hs := HR.set 1 (.slice A' (n - k) (c - k))
  refine ⟨rfl, A', c - k, by simpa [EObj] using hs, ?_, ?_, by omega, by omega, ?_, ?_, (Only.refl _ _).setCell (p := ⟨g, 1, none⟩) (.inl (by simp)) _⟩
  · by_cases h0 : n - k = 0
    · rw [h0, List.drop_eq_nil_of_le (by rw [hl.len]; omega)]; exact Rd.nil _ _ _
    · rw [if_neg (by omega)] at hA
      subst hA
      exact (hl.drop k hk).setFar _ (fun b off e => by injection e with e; injection e with e1 e2; subst e1; exact hb (by omega))
  · intro h; rw [hA] at h; split at h <;> cases h
  · intro b off e
    rw [hA] at e
    split at e <;> (injection e with e; injection e with e1 e2; subst e1; exact ⟨_, rfl⟩)
  · right
    rw [hA]
    split <;> exact ⟨_, _, rfl⟩
set_option maxHeartbeats 1000000 in
theorem edrop (w : World) (g N : Nat) (A : Option Addr) (n c : Nat) (l : List Int) (m : Int) (H : EObj w g N A n c) (hl : Rd .u8 w A n l) (hc0 : A = none → c = 0) (hnc : n ≤ c) (hn : n ≤ 1048560) (hcm : c ≤ maxLen) (hfl : A = none ∨ ∃ b off, A = some ⟨b, off, none⟩) (hb : 0 < n → ∀ b off, A = some ⟨b, off, none⟩ → b ≠ g)
    (hm : -9223372036854775808 ≤ m ∧ m ≤ 9223372036854775807) :
    Calls Try.prog 21 #[.pointer (some ⟨g, 0, none⟩), .int .i64 m] w (EDEnd w g N A n (dropN l m) l) := by
  have c1 : w.cell? ⟨g, 1, none⟩ = some (.slice A n c) := H.cell 1
  have f1 := H.frozen 1
  have hlt := H.lt
  have HLen := hid hl.len
  have HB : Hid (Only [g] w w) := hid (Only.refl [g] w)
  obtain ⟨k, hk⟩ : ∃ k, dropN l m = k := ⟨_, rfl⟩
  have hk2 : (k : Int) = max 0 (min m n) := by rw [← hk]; unfold dropN; rw [HLen.out]; omega
  rw [hk]
  clear hk
  rcases hfl with rfl | ⟨bl, ol, rfl⟩
  · have := hc0 rfl
    subst this
    obtain rfl : n = 0 := by omega
    obtain rfl : k = 0 := by omega
    have HR := hid H; clear H hl hc0 hk2
    by_cases h1 : m < 0
    · have h2 : ¬ (0 < m) := by omega
      go_enter Try.func21, Try.ntmps21
      go_wp2
      all_goals go_ret
      all_goals
        refine ⟨rInt (by omega), none, 0, ?_, ?_, fun _ => rfl, by omega, by unfold maxLen; omega, (fun b off e => by cases e), .inl rfl, HB.out.setCell (p := ⟨g, 1, none⟩) (.inl (by simp)) _⟩
        · have := HR.out.set 1 (.slice none 0 0)
          simpa [EObj] using this
        · rw [List.drop_eq_nil_of_le (by rw [HLen.out]; omega)]; exact Rd.nil _ _ _
      
    · by_cases h2 : 0 < m
      · go_enter Try.func21, Try.ntmps21
        go_wp2
        all_goals go_ret
        all_goals
          refine ⟨rInt (by omega), none, 0, ?_, ?_, fun _ => rfl, by omega, by unfold maxLen; omega, (fun b off e => by cases e), .inl rfl, HB.out.setCell (p := ⟨g, 1, none⟩) (.inl (by simp)) _⟩
          · have := HR.out.set 1 (.slice none 0 0)
            simpa [EObj] using this
          · rw [List.drop_eq_nil_of_le (by rw [HLen.out]; omega)]; exact Rd.nil _ _ _
        
      · obtain rfl : m = 0 := by omega
        go_enter Try.func21, Try.ntmps21
        go_wp2
        all_goals go_ret
        all_goals
          refine ⟨rInt (by omega), none, 0, ?_, ?_, fun _ => rfl, by omega, by unfold maxLen; omega, (fun b off e => by cases e), .inl rfl, HB.out.setCell (p := ⟨g, 1, none⟩) (.inl (by simp)) _⟩
          · have := HR.out.set 1 (.slice none 0 0)
            simpa [EObj] using this
          · rw [List.drop_eq_nil_of_le (by rw [HLen.out]; omega)]; exact Rd.nil _ _ _
        
  · have HF : Hid (∀ (A' : Option Addr), A' = (if c = k then some ⟨bl, ol, none⟩ else some ⟨bl, ol + k, none⟩) → EDEnd w g N (some ⟨bl, ol, none⟩) n k l (.returned (.int .i64 (k : Nat))) (w.setCell ⟨g, 1, none⟩ (.slice A' (n - k) (c - k)))) := hid (fun A' hA => ed_some w g N bl ol n c k l H hl (by omega) hnc hcm (fun h0 => hb h0 _ _ rfl) A' hA)
    clear H hl hc0 hb HB
    have hkc : (k : Int) ≤ c := by omega
    have hkn : k ≤ n := by omega
    rcases Nat.eq_zero_or_pos k with rfl | hk0
    · have HF0 := hid (HF.out (some ⟨bl, ol, none⟩) (by split <;> simp))
      clear HF
      by_cases h1 : m < 0
      · have h2 : ¬ ((n : Int) < m) := by omega
        clear hk2
        go_enter Try.func21, Try.ntmps21
        go_wp2
        all_goals go_ret
        all_goals simpa using HF0.out
      · by_cases h2 : (n : Int) < m
        · obtain rfl : n = 0 := by omega
          clear hk2
          go_enter Try.func21, Try.ntmps21
          go_wp2
          all_goals go_ret
          all_goals simpa using HF0.out
        · obtain rfl : m = 0 := by omega
          clear hk2
          go_enter Try.func21, Try.ntmps21
          go_wp2
          all_goals go_ret
          all_goals simpa using HF0.out
    · by_cases h2 : (n : Int) < m
      · have hkn2 : k = n := by omega
        clear hk2
        subst hkn2
        have h3 : (0 : Int) < k := by omega
        go_enter Try.func21, Try.ntmps21
        go_wp2
        all_goals go_ret
        all_goals by_cases hck : c = k
        all_goals first | (exfalso; omega) | (subst hck; simpa using HF.out (some ⟨bl, ol, none⟩) (by simp)) | simpa using HF.out (some ⟨bl, ol + k, none⟩) (by simp [hck])
      · have hkm : m = k := by omega
        clear hk2
        subst hkm
        have h3 : (0 : Int) < k := by omega
        go_enter Try.func21, Try.ntmps21
        go_wp2
        all_goals go_ret
        all_goals by_cases hck : c = k
        all_goals first | (exfalso; omega) | (subst hck; simpa using HF.out (some ⟨bl, ol, none⟩) (by simp)) | simpa using HF.out (some ⟨bl, ol + k, none⟩) (by simp [hck])
end Go.Proofs.Ytbjmckmajpdglaa.rng
