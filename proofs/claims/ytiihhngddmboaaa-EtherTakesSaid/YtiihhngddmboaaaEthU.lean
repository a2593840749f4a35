/-
  Chapter 4 (ether): a frame is ours, if it goes to us, to all, or to one of our groups: the law by a walk of its text. Conditions: none but those typed.
-/
import Derived.Test.YtiihhngddmboaaaEthT
import Derived.Test.YtiihhngddmboaaaEvP4
namespace Go.Proofs.Ytiihhngddmboaaa.eth
set_option linter.unusedVariables false
set_option linter.unusedSimpArgs false
open Go.ChangeShapes Go.WideShapes Go.ChangeAt Go.RowKit Go.IntWalk Go.Lib
theorem elemA : Elem Try.prog 50 52 .u32 4 := ⟨Try.underlying50, by kernel_rfl⟩
theorem eqM_self (a0 a1 a2 a3 a4 a5 : Int) : eqM a0 a1 a2 a3 a4 a5 a0 a1 a2 a3 a4 a5 = true := by simp [eqM]
theorem tk_me (m0 m1 m2 m3 m4 m5 : Int) (G : List Int) : tk m0 m1 m2 m3 m4 m5 m0 m1 m2 m3 m4 m5 G = true := by simp [tk, eqM_self]
theorem tk_in (m0 m1 m2 m3 m4 m5 : Int) (G : List Int) (k : Nat) (hk : k < G.length) : tk m0 m1 m2 m3 m4 m5 1 0 94 (G.getD k 0 / 65536 % 128) (G.getD k 0 / 256 % 256) (G.getD k 0 % 256) G = true := by
  unfold tk
  rw [inG_in G k hk 1 0 94 (G.getD k 0 / 65536 % 128) (G.getD k 0 / 256 % 256) (G.getD k 0 % 256) (eqM_self _ _ _ _ _ _)]
  simp
set_option maxHeartbeats 4000000 in
theorem takesLaw (w : World) (m0 m1 m2 m3 m4 m5 t0 t1 t2 t3 t4 t5 : Int) (A : Option Addr) (n c : Nat) (G : List Int) (a : Int) (hl : Rd .u32 w A n G) (hc0 : A = none → c = 0) (hnc : n ≤ c) (ha : 0 ≤ a ∧ a ≤ 4294967295) :
    Calls Try.prog 8 #[.agg #[.int .u8 m0, .int .u8 m1, .int .u8 m2, .int .u8 m3, .int .u8 m4, .int .u8 m5], .slice A n c, .agg #[.int .u8 t0, .int .u8 t1, .int .u8 t2, .int .u8 t3, .int .u8 t4, .int .u8 t5], .int .u32 a] w (fun e w' => e = .returned (.bool true) ∧ Only [] w w') := by
  have QB : Hid (Only [] w ((w.alloc (.cells #[.int .u8 m0, .int .u8 m1, .int .u8 m2, .int .u8 m3, .int .u8 m4, .int .u8 m5] 23)).alloc (.cells #[.int .u8 t0, .int .u8 t1, .int .u8 t2, .int .u8 t3, .int .u8 t4, .int .u8 t5] 23))) := hid (((Only.refl [] w).alloc _).alloc _)
  by_cases hn : n > 2000
  · have h1 : (n : Int) > 2000 := by omega
    go_enter Try.func8, Try.ntmps8
    go_wp2
    go_ret
    exact ⟨rfl, QB.out⟩
  have h1 : ¬ (n : Int) > 2000 := by omega
  have hll := hl.len
  have HW : Hid (∀ z ∈ G, 0 ≤ z ∧ z ≤ 4294967295) := hid (fun z hz => u32Bd (hl.wf z hz))
  have HG := hid hl; clear hl
  have HC := hid hc0; clear hc0
  have OM : Hid (Ob ((w.alloc (.cells #[.int .u8 m0, .int .u8 m1, .int .u8 m2, .int .u8 m3, .int .u8 m4, .int .u8 m5] 23)).alloc (.cells #[.int .u8 t0, .int .u8 t1, .int .u8 t2, .int .u8 t3, .int .u8 t4, .int .u8 t5] 23)) w.heap.size 23 #[.int .u8 m0, .int .u8 m1, .int .u8 m2, .int .u8 m3, .int .u8 m4, .int .u8 m5]) := hid ((Ob.new _ _ _).alloc _)
  have OT : Hid (Ob ((w.alloc (.cells #[.int .u8 m0, .int .u8 m1, .int .u8 m2, .int .u8 m3, .int .u8 m4, .int .u8 m5] 23)).alloc (.cells #[.int .u8 t0, .int .u8 t1, .int .u8 t2, .int .u8 t3, .int .u8 t4, .int .u8 t5] 23)) (w.heap.size + 1) 23 #[.int .u8 t0, .int .u8 t1, .int .u8 t2, .int .u8 t3, .int .u8 t4, .int .u8 t5]) := hid (by simpa using Ob.new (w.alloc (.cells #[.int .u8 m0, .int .u8 m1, .int .u8 m2, .int .u8 m3, .int .u8 m4, .int .u8 m5] 23)) 23 #[.int .u8 t0, .int .u8 t1, .int .u8 t2, .int .u8 t3, .int .u8 t4, .int .u8 t5])
  have HX : Hid (((w.alloc (.cells #[.int .u8 m0, .int .u8 m1, .int .u8 m2, .int .u8 m3, .int .u8 m4, .int .u8 m5] 23)).alloc (.cells #[.int .u8 t0, .int .u8 t1, .int .u8 t2, .int .u8 t3, .int .u8 t4, .int .u8 t5] 23)) = ((w.alloc (.cells #[.int .u8 m0, .int .u8 m1, .int .u8 m2, .int .u8 m3, .int .u8 m4, .int .u8 m5] 23)).alloc (.cells #[.int .u8 t0, .int .u8 t1, .int .u8 t2, .int .u8 t3, .int .u8 t4, .int .u8 t5] 23))) := hid rfl
  generalize hW1 : ((w.alloc (.cells #[.int .u8 m0, .int .u8 m1, .int .u8 m2, .int .u8 m3, .int .u8 m4, .int .u8 m5] 23)).alloc (.cells #[.int .u8 t0, .int .u8 t1, .int .u8 t2, .int .u8 t3, .int .u8 t4, .int .u8 t5] 23)) = W1 at QB OM OT
  have HSZ : Hid (W1.heap.size = w.heap.size + 1 + 1) := hid (by rw [← hW1]; simp)
  have HW1 := hid hW1; clear hW1 HX
  have hs1 : w.heap.size + 1 < W1.heap.size := OT.out.lt
  have VL : Hid (Own .u32 52 (W1.alloc (.cells #[] 52)) W1.heap.size (.slice (some ⟨W1.heap.size, 0, none⟩) 0 0) []) := hid (Own.lit .u32 52 W1 W1.heap.size [] #[] 0 rfl rfl (Nat.le_refl _) (by simp) (by simp))
  have B : Hid (Below W1.heap.size W1 (W1.alloc (.cells #[] 52))) := hid ((Below.refl _ _).alloc (Nat.le_refl _) _)
  go_enter Try.func8, Try.ntmps8
  go_wp2_with (at_builtin; rw [HW1.out]; refine wpList_app _ rfl (.tmp 15) (.tmp 16) _ rfl elemA W1.heap.size _ [] rfl ?ca A n c G rfl ?cb ?cc ?cd ?ce ?cf ?_)
  case ca => rw [← HSZ.out]; exact VL.out
  case cb => exact (HG.out.only_nil QB.out).below B.out (Nat.le_refl _)
  case cc => exact HC.out
  case cd => first | omega | (simp; omega)
  case ce => unfold maxLen; first | omega | (simp; omega)
  intro v2 W2 hv hg hb
  have V2 : Hid (Own .u32 52 W2 W1.heap.size v2 G) := hid hv
  have B := hid (B.out.grown hg (by have := B.out.size; omega) (fun k hk => (VL.out.lt k (by rw [HSZ.out]; exact hk)).1))
  clear hv hg hb VL
  have hs2 := B.out.size
  have VL : Hid (Own .u32 52 (W2.alloc (.cells #[.int .u32 7] 52)) W1.heap.size (.slice (some ⟨W2.heap.size, 0, none⟩) 1 1) [7]) := hid (Own.lit .u32 52 W2 W1.heap.size [7] #[.int .u32 7] 1 rfl rfl hs2 (by simp [maxLen]) (by intro z hz; simp at hz; subst hz; decide))
  have B := hid (B.out.alloc hs2 (.cells #[.int .u32 7] 52)); have V2 := hid (V2.out.alloc (.cells #[.int .u32 7] 52))
  go_wp2_with (at_builtin; refine wpList_app _ rfl (.tmp 17) (.tmp 18) _ rfl elemA W1.heap.size v2 G rfl ?da (some ⟨W2.heap.size, 0, none⟩) 1 1 [7] rfl ?db ?dc ?dd ?de ?df ?_)
  case da => exact V2.out
  case db => exact VL.out.rd
  case dc => simp
  case dd => omega
  case de => unfold maxLen; omega
  case df => simp; omega
  intro v3 W3 hv hg hb
  have V3 : Hid (Own .u32 52 W3 W1.heap.size v3 (G ++ [7])) := hid hv
  have B := hid (B.out.grown hg (by have := B.out.size; omega) (fun k hk => (V2.out.lt k hk).1))
  clear hv hg hb VL V2
  obtain ⟨g, cap, ev⟩ := V3.out.some_form (by simp)
  have hgl : (G ++ [7]).length = n + 1 := by simp [hll]
  rw [hgl] at ev
  have HGL := hid hgl; clear hgl
  subst ev
  have V := hid V3.out; clear V3
  have hcap := V.out.len
  have hncap : (n : Int) ≤ cap := by omega
  have hnc' : (n : Int) ≤ c := by omega
  have hnn1 : (n : Int) < n + 1 := by omega
  have HPT : Hid (∀ W : World, Own .u32 52 W W1.heap.size (.slice (some ⟨g, 0, none⟩) (n + 1) cap) (G ++ [7]) → Rd .u32 W (some ⟨g, 0, none⟩) n G) := hid (fun W h => by
    have h5 := h.rd.take n (by omega)
    rwa [List.take_append_of_le_length (by omega), List.take_of_length_le (by omega)] at h5)
  have HSV : Hid (∀ W : World, Own .u32 52 W W1.heap.size (.slice (some ⟨g, 0, none⟩) (n + 1) cap) (G ++ [7]) → W.cell? ⟨g, n, none⟩ = some (.int .u32 7)) := hid (fun W h => by
    have h5 := h.cellD n (by omega)
    rwa [show (G ++ [7] : List Int).getD n 0 = 7 from by simp [List.getD_eq_getElem?_getD, ← hll]] at h5)
  have HGV : Hid (∀ (W : World) (k : Nat), k < n → Own .u32 52 W W1.heap.size (.slice (some ⟨g, 0, none⟩) (n + 1) cap) (G ++ [7]) → W.cell? ⟨g, k, none⟩ = some (.int .u32 (G.getD k 0))) := hid (fun W k hk h => by
    have h5 := h.cellD k (by omega)
    rwa [show (G ++ [7] : List Int).getD k 0 = G.getD k 0 from by simp [List.getD_eq_getElem?_getD, List.getElem?_append_left (show k < G.length by omega)]] at h5)
  have QW := hid (Only.of_below (S := []) B.out)
  have OM := hid (OM.out.only QW.out (by simp)); have OT := hid (OT.out.only QW.out (by simp)); have QB := hid (QB.out.trans QW.out)
  clear QW B HW1 hs2
  obtain ⟨rs, hrs⟩ : ∃ rs, tk m0 m1 m2 m3 m4 m5 t0 t1 t2 t3 t4 t5 G = rs := ⟨_, rfl⟩
  have HRS := hid hrs; clear hrs
  go_wp2_with fail
  refine wp_region_noPanic ?_
  refine rgn.regionT (R := Only []) (by kernel_rfl) (Only.refl []) (fun _ _ _ => Only.trans) (fun _ _ _ _ _ h => h) (.y 0 (.y 1 (.y 2 (.y 3 (.y 4 (.y 5 (.y 7 (.y 8 (.y 9 (.e 6 (.e 10 (.y 11 (.y 12 (.y 13 (.y 14 (.y 15 (.y 16 (.y 17 (.y 18 (.y 19 (.e 20 .z))))))))))))))))))))) (by kernel_rfl) (fun W hWd => ?_)
  have HWd := hid hWd; clear hWd
  have OM := hid (OM.out.eq_drew HWd.out); have OT := hid (OT.out.eq_drew HWd.out); have QB := hid (QB.out.eq_drew HWd.out); have V : Hid (Own .u32 52 W _ _ _) := hid (by have h9 := HWd.out; subst h9; exact V.out.drew)
  clear HWd
  refine rgn.Walk.ys rfl rfl rfl (fun W' hW' => exec_load 23 _ rfl _ rfl _ _ (OM.out.only hW' (by simp)) Try.underlying23 rfl (by kernel_rfl)) ?_
  try simp only [Act.put, List.setIfInBounds_toArray, List.set_cons_zero, List.set_cons_succ]
  refine rgn.Walk.ys (v := ?_) rfl rfl rfl ?_ ?_
  rotate_left 1
  · intro W' hW'
    go_simp
    try with_reducible rfl
  try simp only [Act.put, List.setIfInBounds_toArray, List.set_cons_zero, List.set_cons_succ]
  refine rgn.Walk.ys (v := ?_) rfl rfl rfl ?_ ?_
  rotate_left 1
  · intro W' hW'
    go_simp
    try with_reducible rfl
  try simp only [Act.put, List.setIfInBounds_toArray, List.set_cons_zero, List.set_cons_succ]
  refine rgn.Walk.ys (v := ?_) rfl rfl rfl ?_ ?_
  rotate_left 1
  · intro W' hW'
    go_simp
    try with_reducible rfl
  try simp only [Act.put, List.setIfInBounds_toArray, List.set_cons_zero, List.set_cons_succ]
  refine rgn.Walk.ys (v := ?_) rfl rfl rfl ?_ ?_
  rotate_left 1
  · intro W' hW'
    go_simp
    try with_reducible rfl
  try simp only [Act.put, List.setIfInBounds_toArray, List.set_cons_zero, List.set_cons_succ]
  refine rgn.Walk.ys rfl rfl rfl (fun W' hW' => exec_load 23 _ rfl _ rfl _ _ (OT.out.only hW' (by simp)) Try.underlying23 rfl (by kernel_rfl)) ?_
  try simp only [Act.put, List.setIfInBounds_toArray, List.set_cons_zero, List.set_cons_succ]
  refine rgn.Walk.ys rfl rfl rfl (fun W' hW' => exec_load 23 _ rfl _ rfl _ _ (OM.out.only hW' (by simp)) Try.underlying23 rfl (by kernel_rfl)) ?_
  try simp only [Act.put, List.setIfInBounds_toArray, List.set_cons_zero, List.set_cons_succ]
  refine rgn.Walk.ys (v := ?_) rfl rfl rfl ?_ ?_
  rotate_left 1
  · intro W' hW'
    go_simp
    try with_reducible rfl
  try simp only [Act.put, List.setIfInBounds_toArray, List.set_cons_zero, List.set_cons_succ]
  refine rgn.Walk.ys rfl rfl rfl (fun W' hW' => exec_load 23 _ rfl _ rfl _ _ (OT.out.only hW' (by simp)) Try.underlying23 rfl (by kernel_rfl)) ?_
  try simp only [Act.put, List.setIfInBounds_toArray, List.set_cons_zero, List.set_cons_succ]
  refine rgn.Walk.es ?_
  refine rgn.stepE rfl rfl (fun K hK => ?_)
  go_simp
  refine (takes1 _ m0 m1 m2 m3 m4 m5 t0 t1 t2 t3 t4 t5 (some ⟨g, 0, none⟩) n cap G (HPT.out _ V.out) (by omega) HW.out).mono ?_
  rintro x w4 ⟨rfl, o3⟩
  rw [HRS.out]
  refine hK _ _ o3 ?_
  clear hK K
  try simp only [Act.put, List.setIfInBounds_toArray, List.set_cons_zero, List.set_cons_succ]
  have OM := hid (OM.out.only o3 (by simp)); have OT := hid (OT.out.only o3 (by simp)); have QB := hid (QB.out.trans o3); have V := hid (V.out.only_nil o3); clear o3
  refine rgn.Walk.es ?_
  refine rgn.stepE rfl rfl (fun K hK => ?_)
  go_simp
  refine (takes2 _ m0 m1 m2 m3 m4 m5 t0 t1 t2 t3 t4 t5 A n c G (HG.out.only_nil QB.out) (by omega) HW.out).mono ?_
  rintro x w5 ⟨rfl, o3⟩
  rw [HRS.out]
  refine hK _ _ o3 ?_
  clear hK K
  try simp only [Act.put, List.setIfInBounds_toArray, List.set_cons_zero, List.set_cons_succ]
  have OM := hid (OM.out.only o3 (by simp)); have OT := hid (OT.out.only o3 (by simp)); have QB := hid (QB.out.trans o3); have V := hid (V.out.only_nil o3); clear o3
  refine rgn.Walk.ys (v := ?_) rfl rfl rfl ?_ ?_
  rotate_left 1
  · intro W' hW'
    go_simp
    try with_reducible rfl
  try simp only [Act.put, List.setIfInBounds_toArray, List.set_cons_zero, List.set_cons_succ]
  refine rgn.Walk.ys (v := ?_) rfl rfl rfl ?_ ?_
  rotate_left 1
  · intro W' hW'
    go_simp
    try with_reducible rfl
  try simp only [Act.put, List.setIfInBounds_toArray, List.set_cons_zero, List.set_cons_succ]
  refine rgn.Walk.ys (v := ?_) rfl rfl rfl ?_ ?_
  rotate_left 1
  · intro W' hW'
    go_simp
    try with_reducible rfl
  try simp only [Act.put, List.setIfInBounds_toArray, List.set_cons_zero, List.set_cons_succ]
  refine rgn.Walk.ys (v := ?_) rfl rfl rfl ?_ ?_
  rotate_left 1
  · intro W' hW'
    go_simp
    try with_reducible rfl
  try simp only [Act.put, List.setIfInBounds_toArray, List.set_cons_zero, List.set_cons_succ]
  refine rgn.Walk.ys (v := ?_) rfl rfl rfl ?_ ?_
  rotate_left 1
  · intro W' hW'
    go_simp
    try with_reducible rfl
  try simp only [Act.put, List.setIfInBounds_toArray, List.set_cons_zero, List.set_cons_succ]
  refine rgn.Walk.ys (v := ?_) rfl rfl rfl ?_ ?_
  rotate_left 1
  · intro W' hW'
    go_simp
    try with_reducible rfl
  try simp only [Act.put, List.setIfInBounds_toArray, List.set_cons_zero, List.set_cons_succ]
  refine rgn.Walk.ys (v := ?_) rfl rfl rfl ?_ ?_
  rotate_left 1
  · intro W' hW'
    have q7 := HSV.out _ (V.out.only_nil hW')
    go_simp
    try with_reducible rfl
  try simp only [Act.put, List.setIfInBounds_toArray, List.set_cons_zero, List.set_cons_succ]
  refine rgn.Walk.ys (v := ?_) rfl rfl rfl ?_ ?_
  rotate_left 1
  · intro W' hW'
    go_simp
    try with_reducible rfl
  try simp only [Act.put, List.setIfInBounds_toArray, List.set_cons_zero, List.set_cons_succ]
  refine rgn.Walk.ys (v := ?_) rfl rfl rfl ?_ ?_
  rotate_left 1
  · intro W' hW'
    go_simp
    try with_reducible rfl
  try simp only [Act.put, List.setIfInBounds_toArray, List.set_cons_zero, List.set_cons_succ]
  refine rgn.Walk.es ?_
  refine rgn.stepE rfl rfl (fun K hK => ?_)
  go_simp
  refine hK _ _ ((Only.refl []) _) ?_
  clear hK K
  try simp only [Act.put, List.setIfInBounds_toArray, List.set_cons_zero, List.set_cons_succ]
  refine rgn.Walk.zs (NoPanic.normal ?_)
  have QB0 := hid QB.out; have OM0 := hid OM.out; have V0 := hid V.out
  go_wp2
  go_loopw [10, 11] (fun ok i wr => ∃ k : Nat, k ≤ n ∧ i = .int .i64 k ∧ ok = .bool true ∧ Hid (Only [] w5 wr)) (fun _ i _ => n - (intOf i).toNat)
  case atStart => exact ⟨0, by omega, rfl, rfl, hid (Only.refl _ _)⟩
  case round =>
  obtain ⟨k, hk, rfl, rfl, HB⟩ := hrel
  have QB := hid (QB0.out.trans HB.out)
  have OM := hid (OM0.out.only HB.out (by simp)); have V := hid (V0.out.only_nil HB.out)
  by_cases hlt : k < n
  · obtain ⟨b, off, rfl, hb, hc⟩ := (HG.out.only_nil QB.out).at_ (by omega)
    clear hc
    have hkn : (k : Int) < n := by omega
    have hkn1 : (k : Int) < n + 1 := by omega
    have hx := HW.out (G.getD k 0) (by rw [List.getD_eq_getElem?_getD, List.getElem?_eq_getElem (by omega)]; exact List.getElem_mem _)
    have HIN := hid (tk_in m0 m1 m2 m3 m4 m5 G k (by omega))
    have HCV : Hid (∀ W : World, Own .u32 52 W W1.heap.size (.slice (some ⟨g, 0, none⟩) (n + 1) cap) (G ++ [7]) → W.cell? ⟨g, k, none⟩ = some (.int .u32 (G.getD k 0))) := hid (fun W h => HGV.out W k hlt h)
    have HCG : Hid (∀ W : World, Rd .u32 W (some ⟨b, off, none⟩) n G → W.cell? ⟨b, off + k, none⟩ = some (.int .u32 (G.getD k 0))) := hid (fun W h => h.cellD k hlt)
    generalize G.getD k 0 = x at *
    go_wp2_with fail
    refine wp_region_noPanic ?_
    refine rgn.regionT (R := Only []) (by kernel_rfl) (Only.refl []) (fun _ _ _ => Only.trans) (fun _ _ _ _ _ h => h) (.y 0 (.y 1 (.y 2 (.y 3 (.y 4 (.y 5 (.y 6 (.y 7 (.y 8 (.y 9 (.y 10 (.y 11 (.y 12 (.y 13 (.y 14 (.y 15 (.y 16 (.y 17 (.y 18 (.e 19 (.e 20 (.y 21 (.e 22 .z))))))))))))))))))))))) (by kernel_rfl) (fun W hWd => ?_)
    have HWd := hid hWd; clear hWd
    have OM := hid (OM.out.eq_drew HWd.out); have QB := hid (QB.out.eq_drew HWd.out); have HB := hid (HB.out.eq_drew HWd.out); have V : Hid (Own .u32 52 W _ _ _) := hid (by have h9 := HWd.out; subst h9; exact V.out.drew)
    clear HWd
    refine rgn.Walk.ys (v := ?_) rfl rfl rfl ?_ ?_
    rotate_left 1
    · intro W' hW'
      go_simp
      try with_reducible rfl
    try simp only [Act.put, List.setIfInBounds_toArray, List.set_cons_zero, List.set_cons_succ]
    refine rgn.Walk.ys (v := ?_) rfl rfl rfl ?_ ?_
    rotate_left 1
    · intro W' hW'
      go_simp
      try with_reducible rfl
    try simp only [Act.put, List.setIfInBounds_toArray, List.set_cons_zero, List.set_cons_succ]
    refine rgn.Walk.ys (v := ?_) rfl rfl rfl ?_ ?_
    rotate_left 1
    · intro W' hW'
      go_simp
      try with_reducible rfl
    try simp only [Act.put, List.setIfInBounds_toArray, List.set_cons_zero, List.set_cons_succ]
    refine rgn.Walk.ys (v := ?_) rfl rfl rfl ?_ ?_
    rotate_left 1
    · intro W' hW'
      go_simp
      try with_reducible rfl
    try simp only [Act.put, List.setIfInBounds_toArray, List.set_cons_zero, List.set_cons_succ]
    refine rgn.Walk.ys (v := ?_) rfl rfl rfl ?_ ?_
    rotate_left 1
    · intro W' hW'
      go_simp
      try with_reducible rfl
    try simp only [Act.put, List.setIfInBounds_toArray, List.set_cons_zero, List.set_cons_succ]
    refine rgn.Walk.ys (v := ?_) rfl rfl rfl ?_ ?_
    rotate_left 1
    · intro W' hW'
      have q7 := HCV.out _ (V.out.only_nil hW')
      go_simp
      try with_reducible rfl
    try simp only [Act.put, List.setIfInBounds_toArray, List.set_cons_zero, List.set_cons_succ]
    refine rgn.Walk.ys (v := ?_) rfl rfl rfl ?_ ?_
    rotate_left 1
    · intro W' hW'
      go_simp
      try with_reducible rfl
    try simp only [Act.put, List.setIfInBounds_toArray, List.set_cons_zero, List.set_cons_succ]
    refine rgn.Walk.ys (v := ?_) rfl rfl rfl ?_ ?_
    rotate_left 1
    · intro W' hW'
      go_simp
      try with_reducible rfl
    try simp only [Act.put, List.setIfInBounds_toArray, List.set_cons_zero, List.set_cons_succ]
    refine rgn.Walk.ys (v := ?_) rfl rfl rfl ?_ ?_
    rotate_left 1
    · intro W' hW'
      go_simp
      try with_reducible rfl
    try simp only [Act.put, List.setIfInBounds_toArray, List.set_cons_zero, List.set_cons_succ]
    refine rgn.Walk.ys (v := ?_) rfl rfl rfl ?_ ?_
    rotate_left 1
    · intro W' hW'
      have q7 := HCG.out _ (HG.out.only_nil (QB.out.trans hW'))
      go_simp
      try with_reducible rfl
    try simp only [Act.put, List.setIfInBounds_toArray, List.set_cons_zero, List.set_cons_succ]
    refine rgn.Walk.ys (v := ?_) rfl rfl rfl ?_ ?_
    rotate_left 1
    · intro W' hW'
      go_simp
      try with_reducible rfl
    try simp only [Act.put, List.setIfInBounds_toArray, List.set_cons_zero, List.set_cons_succ]
    refine rgn.Walk.ys (v := ?_) rfl rfl rfl ?_ ?_
    rotate_left 1
    · intro W' hW'
      go_simp
      try with_reducible rfl
    try simp only [Act.put, List.setIfInBounds_toArray, List.set_cons_zero, List.set_cons_succ]
    refine rgn.Walk.ys (v := ?_) rfl rfl rfl ?_ ?_
    rotate_left 1
    · intro W' hW'
      go_simp
      try with_reducible rfl
    try simp only [Act.put, List.setIfInBounds_toArray, List.set_cons_zero, List.set_cons_succ]
    refine rgn.Walk.ys rfl rfl rfl (fun W' hW' => exec_load 23 _ rfl _ rfl _ _ (OM.out.only hW' (by simp)) Try.underlying23 rfl (by kernel_rfl)) ?_
    try simp only [Act.put, List.setIfInBounds_toArray, List.set_cons_zero, List.set_cons_succ]
    refine rgn.Walk.ys (v := ?_) rfl rfl rfl ?_ ?_
    rotate_left 1
    · intro W' hW'
      go_simp
      try with_reducible rfl
    try simp only [Act.put, List.setIfInBounds_toArray, List.set_cons_zero, List.set_cons_succ]
    refine rgn.Walk.ys (v := ?_) rfl rfl rfl ?_ ?_
    rotate_left 1
    · intro W' hW'
      go_simp
      try with_reducible rfl
    try simp only [Act.put, List.setIfInBounds_toArray, List.set_cons_zero, List.set_cons_succ]
    refine rgn.Walk.ys (v := ?_) rfl rfl rfl ?_ ?_
    rotate_left 1
    · intro W' hW'
      go_simp
      try with_reducible rfl
    try simp only [Act.put, List.setIfInBounds_toArray, List.set_cons_zero, List.set_cons_succ]
    refine rgn.Walk.ys (v := ?_) rfl rfl rfl ?_ ?_
    rotate_left 1
    · intro W' hW'
      go_simp
      try with_reducible rfl
    try simp only [Act.put, List.setIfInBounds_toArray, List.set_cons_zero, List.set_cons_succ]
    refine rgn.Walk.ys (v := ?_) rfl rfl rfl ?_ ?_
    rotate_left 1
    · intro W' hW'
      have q7 := HCG.out _ (HG.out.only_nil (QB.out.trans hW'))
      go_simp
      try with_reducible rfl
    try simp only [Act.put, List.setIfInBounds_toArray, List.set_cons_zero, List.set_cons_succ]
    refine rgn.Walk.es ?_
    refine rgn.stepE rfl rfl (fun K hK => ?_)
    go_simp
    refine (og1 _ x hx).mono ?_
    rintro x w4 ⟨rfl, o3⟩
    refine hK _ _ o3 ?_
    clear hK K
    try simp only [Act.put, List.setIfInBounds_toArray, List.set_cons_zero, List.set_cons_succ]
    have OM := hid (OM.out.only o3 (by simp)); have QB := hid (QB.out.trans o3); have V := hid (V.out.only_nil o3); have HB := hid (HB.out.trans o3); clear o3
    refine rgn.Walk.es ?_
    refine rgn.stepE rfl rfl (fun K hK => ?_)
    go_simp
    refine (takes1 _ m0 m1 m2 m3 m4 m5 1 0 94 (x / 65536 % 128) (x / 256 % 256) (x % 256) (some ⟨b, off, none⟩) n c G (HG.out.only_nil QB.out) (by omega) HW.out).mono ?_
    rintro x w5 ⟨rfl, o3⟩
    rw [HIN.out]
    refine hK _ _ o3 ?_
    clear hK K
    try simp only [Act.put, List.setIfInBounds_toArray, List.set_cons_zero, List.set_cons_succ]
    have OM := hid (OM.out.only o3 (by simp)); have QB := hid (QB.out.trans o3); have V := hid (V.out.only_nil o3); have HB := hid (HB.out.trans o3); clear o3
    refine rgn.Walk.ys (v := ?_) rfl rfl rfl ?_ ?_
    rotate_left 1
    · intro W' hW'
      go_simp
      try with_reducible rfl
    try simp only [Act.put, List.setIfInBounds_toArray, List.set_cons_zero, List.set_cons_succ]
    refine rgn.Walk.es ?_
    refine rgn.stepE rfl rfl (fun K hK => ?_)
    go_simp
    refine hK _ _ ((Only.refl []) _) ?_
    clear hK K
    try simp only [Act.put, List.setIfInBounds_toArray, List.set_cons_zero, List.set_cons_succ]
    refine rgn.Walk.zs (NoPanic.normal ?_)
    go_wp2
    go_roundw
    case rel => exact ⟨k + 1, by omega, by go_num, rfl, HB⟩
    case measure => simp [intOf]; omega
  · have hkn : k = n := by omega
    subst hkn
    have hnk : k ≤ 100000 := by omega
    have HME := hid (tk_me m0 m1 m2 m3 m4 m5 G)
    have j0 := OM.out.cell 0; have j1 := OM.out.cell 1; have j2 := OM.out.cell 2; have j3 := OM.out.cell 3; have j4 := OM.out.cell 4; have j5 := OM.out.cell 5
    go_wp2_with fail
    refine (takes1 _ m0 m1 m2 m3 m4 m5 m0 m1 m2 m3 m4 m5 A k c G (HG.out.only_nil QB.out) hnk HW.out).mono ?_
    rintro x w6 ⟨rfl, o6⟩
    rw [HME.out]
    have QB := hid (QB.out.trans o6)
    clear o6 j0 j1 j2 j3 j4 j5
    go_wp2_with fail
    refine (og1 _ a ha).mono ?_
    rintro x w7 ⟨rfl, o7⟩
    have QB := hid (QB.out.trans o7)
    clear o7
    go_wp2_with fail
    refine (og2 _ a ha).mono ?_
    rintro x w8 ⟨rfl, o8⟩
    have QB := hid (QB.out.trans o8)
    clear o8
    have E9 := fun W => eth_eq W 1 0 94 (a / 65536 % 128) (a / 256 % 256) (a % 256) 1 0 94 (a / 65536 % 128) (a / 256 % 256) (a % 256) true (eqM_self _ _ _ _ _ _)
    go_wp2_with fail
    refine (ev.known _).mono ?_
    rintro x w9 ⟨rfl, o9⟩
    have QB := hid (QB.out.trans o9)
    clear o9
    go_wp2
    go_ret
    exact ⟨rfl, QB.out⟩
end Go.Proofs.Ytiihhngddmboaaa.eth
