/-
  Chapter 6 (ipv4): Encode of a packet, by a walk of its text. Conditions: none but those typed.
-/
import Derived.Test.YtngaolagifgfjaaIfD
namespace Go.Proofs.Ytngaolagifgfjaa.ip
set_option linter.unusedVariables false
set_option linter.unusedSimpArgs false
open Go.ChangeShapes Go.WideShapes Go.ChangeAt Go.RowKit Go.IntWalk Go.Lib
theorem own_neP6 {w : World} {g base : Nat} {v : Value} {l : List Int} {cs : Array Value} (ho : Ob w g 26 cs) (h : Own .u8 5 w base v l) : v.ownBlock ≠ some g := by
  intro e
  rcases h.1.2 with ⟨hv, _⟩ | ⟨g', cap, cur, hv, _, hh, _⟩
  · rw [hv] at e; cases e
  · rw [hv] at e
    have : g' = g := by simpa [Value.ownBlock] using e
    subst this
    unfold Ob at ho
    rw [hh] at ho
    injection ho with h2; injection h2 with _ h3
    exact absurd h3 (by decide)
theorem own_cap {w : World} {base : Nat} {v : Value} {l : List Int} {A : Option Addr} {n cap : Nat} (h : Own .u8 5 w base v l) (e : v = .slice A n cap) : A = none → cap = 0 := own_notNil h e
theorem chk0 {sv pid off lf pr : Int} {o : List Int} {dn : Nat} (h : chk sv pid off lf pr o dn = 0) : Nums sv pid off lf pr ∧ o.length ≤ 40 ∧ okO o = true ∧ (hl o.length : Int) + off + dn ≤ 65535 := by
  unfold chk at h
  split at h
  · rename_i h1
    split at h
    · omega
    · split at h
      · omega
      · rename_i h3
        split at h
        · omega
        · exact ⟨h1, by omega, by simpa using h3, by omega⟩
  · omega
set_option maxHeartbeats 4000000 in
theorem encE (w : World) (sv pid off lf pr : Int) (wh mo : Bool) (fr to : Int) (oA : Option Addr) (on oc : Nat) (dA : Option Addr) (dn dc : Nat) (o : List Int) (ho : Rd .u8 w oA on o) (hnc : on ≤ oc) (hcm : oc ≤ maxLen) (hn : on ≤ 100000) (hdn : dn ≤ 100000) (h : chk sv pid off lf pr o dn ≠ 0) :
    Calls Try.prog 19 #[.agg #[.int .i64 sv, .int .i64 pid, .bool wh, .bool mo, .int .i64 off, .int .i64 lf, .int .i64 pr, .int .u32 fr, .int .u32 to, .slice oA on oc, .slice dA dn dc]] w fun x w' => x = .returned (.tuple #[.slice none 0 0, .int .i64 (chk sv pid off lf pr o dn)]) ∧ Only [] w w' := by
  have QB : Hid (Only [] w (w.alloc (.cells #[.int .i64 sv, .int .i64 pid, .bool wh, .bool mo, .int .i64 off, .int .i64 lf, .int .i64 pr, .int .u32 fr, .int .u32 to, .slice oA on oc, .slice dA dn dc] 26))) := hid ((Only.refl [] w).alloc _)
  have HCK := hid (check1 (w.alloc (.cells #[.int .i64 sv, .int .i64 pid, .bool wh, .bool mo, .int .i64 off, .int .i64 lf, .int .i64 pr, .int .u32 fr, .int .u32 to, .slice oA on oc, .slice dA dn dc] 26)) sv pid off lf pr wh mo fr to oA on oc dA dn dc o (ho.only_nil QB.out) hnc hcm hn hdn)
  generalize hE : chk sv pid off lf pr o dn = er at *
  have HE := hid hE
  have d1 : (er != 0) = true := by simpa using h
  clear hE ho h
  go_enter Try.func19, Try.ntmps19
  go_wp2_with fail
  refine HCK.out.mono ?_
  rintro x w1 ⟨rfl, o1⟩
  have Q1 := hid (QB.out.trans o1); clear o1
  go_wp2
  go_ret2
  exact ⟨rfl, Q1.out⟩
set_option maxRecDepth 100000 in
set_option maxHeartbeats 8000000 in
theorem enc1 (w : World) (sv pid off lf pr : Int) (wh mo : Bool) (fr to : Int) (oA : Option Addr) (on oc : Nat) (dA : Option Addr) (dn dc : Nat) (o d : List Int) (ho : Rd .u8 w oA on o) (hoc : oA = none → oc = 0) (hnc : on ≤ oc) (hcm : oc ≤ maxLen) (hn : on ≤ 100000) (hd : Rd .u8 w dA dn d) (hdc : dA = none → dc = 0) (hdn : dn ≤ 100000) (h : chk sv pid off lf pr o dn = 0) :
    Calls Try.prog 19 #[.agg #[.int .i64 sv, .int .i64 pid, .bool wh, .bool mo, .int .i64 off, .int .i64 lf, .int .i64 pr, .int .u32 fr, .int .u32 to, .slice oA on oc, .slice dA dn dc]] w fun x w' => ∃ v, x = .returned (.tuple #[v, .int .i64 0]) ∧ Own .u8 5 w' w.heap.size v (encP sv pid off lf pr wh mo fr to o d) ∧ Only [] w w' := by
  obtain ⟨hN, hn40, hok, hll⟩ := chk0 h
  have hon : o.length = on := ho.len
  have hN2 := hN
  unfold Nums at hN2
  have ho0 : 0 ≤ off := by omega
  have ho1 : off ≤ 65528 := by omega
  have hon40 : on ≤ 40 := by omega
  have HDL := hid hd.len
  have QB : Hid (Only [] w (w.alloc (.cells #[.int .i64 sv, .int .i64 pid, .bool wh, .bool mo, .int .i64 off, .int .i64 lf, .int .i64 pr, .int .u32 fr, .int .u32 to, .slice oA on oc, .slice dA dn dc] 26))) := hid ((Only.refl [] w).alloc _)
  have OB : Hid (Ob (w.alloc (.cells #[.int .i64 sv, .int .i64 pid, .bool wh, .bool mo, .int .i64 off, .int .i64 lf, .int .i64 pr, .int .u32 fr, .int .u32 to, .slice oA on oc, .slice dA dn dc] 26)) w.heap.size 26 #[.int .i64 sv, .int .i64 pid, .bool wh, .bool mo, .int .i64 off, .int .i64 lf, .int .i64 pr, .int .u32 fr, .int .u32 to, .slice oA on oc, .slice dA dn dc]) := hid (Ob.new _ _ _)
  have HCK := hid (check1 (w.alloc (.cells #[.int .i64 sv, .int .i64 pid, .bool wh, .bool mo, .int .i64 off, .int .i64 lf, .int .i64 pr, .int .u32 fr, .int .u32 to, .slice oA on oc, .slice dA dn dc] 26)) sv pid off lf pr wh mo fr to oA on oc dA dn dc o (ho.only_nil QB.out) hnc hcm hn hdn)
  rw [h] at HCK
  have HO := hid ho; have HD := hid hd; have HOC := hid hoc; have HDC := hid hdc
  have hhl := hl_bd on
  have HLN : Hid (∀ s, (hdr sv pid off lf pr wh mo fr to o dn s).length = hl on) := hid (fun s => by rw [hdr_len, hon])
  have HSU : Hid (sumH sv pid off lf pr wh mo fr to o dn = oct.sumF (hdr sv pid off lf pr wh mo fr to o dn 0)) := hid rfl
  have HEN : Hid (encP sv pid off lf pr wh mo fr to o d = hdr sv pid off lf pr wh mo fr to o dn (sumH sv pid off lf pr wh mo fr to o dn) ++ d) := hid (by unfold encP; rw [HDL.out])
  clear h hN hN2 hll hok ho hd hoc hdc hcm
  generalize sumH sv pid off lf pr wh mo fr to o dn = sm at *
  go_enter Try.func19, Try.ntmps19
  go_wp2_with fail
  refine HCK.out.mono ?_
  rintro x w1 ⟨rfl, o1⟩
  have OB := hid (OB.out.only o1 (by simp)); have QB := hid (QB.out.trans o1); clear o1 HCK
  have k0 := OB.out.cell 0; have k1 := OB.out.cell 1; have k2 := OB.out.cell 2; have k3 := OB.out.cell 3; have k4 := OB.out.cell 4; have k5 := OB.out.cell 5; have k6 := OB.out.cell 6; have k7 := OB.out.cell 7; have k8 := OB.out.cell 8; have k9 := OB.out.cell 9; have k10 := OB.out.cell 10
  go_wp2_with fail
  clear k0 k1 k2 k3 k4 k5 k6 k7 k8 k9 k10
  have hbs : w.heap.size < w1.heap.size := OB.out.lt
  refine wp_region_noPanic ?_
  refine rgn.regionT (R := Same w.heap.size) (by kernel_rfl) (Same.refl w.heap.size) (Same.trans (g := w.heap.size)) (fun _ _ _ _ _ h => h) (.y 0 (.y 1 (.y 5 (.y 6 (.e 2 (.e 3 (.e 4 (.e 7 (.e 8 (.e 9 .z)))))))))) (by kernel_rfl) (fun W hWd => ?_)
  have HWd := hid hWd; clear hWd
  have OB := hid (OB.out.eq_drew HWd.out); have QB := hid (QB.out.eq_drew HWd.out)
  refine rgn.Walk.ys (v := ?_) rfl rfl rfl ?_ ?_
  rotate_left 1
  · intro W' hW'
    have k0 := (OB.out.same hW').cell 0; have k1 := (OB.out.same hW').cell 1; have k2 := (OB.out.same hW').cell 2; have k3 := (OB.out.same hW').cell 3; have k4 := (OB.out.same hW').cell 4; have k5 := (OB.out.same hW').cell 5; have k6 := (OB.out.same hW').cell 6; have k7 := (OB.out.same hW').cell 7; have k8 := (OB.out.same hW').cell 8; have k9 := (OB.out.same hW').cell 9; have k10 := (OB.out.same hW').cell 10
    go_simp
    try with_reducible rfl
  try simp only [Act.put, List.setIfInBounds_toArray, List.set_cons_zero, List.set_cons_succ]
  refine rgn.Walk.ys (v := ?_) rfl rfl rfl ?_ ?_
  rotate_left 1
  · intro W' hW'
    have k0 := (OB.out.same hW').cell 0; have k1 := (OB.out.same hW').cell 1; have k2 := (OB.out.same hW').cell 2; have k3 := (OB.out.same hW').cell 3; have k4 := (OB.out.same hW').cell 4; have k5 := (OB.out.same hW').cell 5; have k6 := (OB.out.same hW').cell 6; have k7 := (OB.out.same hW').cell 7; have k8 := (OB.out.same hW').cell 8; have k9 := (OB.out.same hW').cell 9; have k10 := (OB.out.same hW').cell 10
    go_simp
    try with_reducible rfl
  try simp only [Act.put, List.setIfInBounds_toArray, List.set_cons_zero, List.set_cons_succ]
  refine rgn.Walk.ys (v := ?_) rfl rfl rfl ?_ ?_
  rotate_left 1
  · intro W' hW'
    go_simp
    try with_reducible rfl
  try simp only [Act.put, List.setIfInBounds_toArray, List.set_cons_zero, List.set_cons_succ]
  refine rgn.Walk.ys (v := ?_) rfl rfl rfl ?_ ?_
  rotate_left 1
  · intro W' hW'
    have k0 := (OB.out.same hW').cell 0; have k1 := (OB.out.same hW').cell 1; have k2 := (OB.out.same hW').cell 2; have k3 := (OB.out.same hW').cell 3; have k4 := (OB.out.same hW').cell 4; have k5 := (OB.out.same hW').cell 5; have k6 := (OB.out.same hW').cell 6; have k7 := (OB.out.same hW').cell 7; have k8 := (OB.out.same hW').cell 8; have k9 := (OB.out.same hW').cell 9; have k10 := (OB.out.same hW').cell 10
    go_simp
    try with_reducible rfl
  try simp only [Act.put, List.setIfInBounds_toArray, List.set_cons_zero, List.set_cons_succ]
  refine rgn.Walk.es ?_
  refine rgn.stepE rfl rfl (fun K hK => ?_)
  go_simp
  refine (header1 _ sv pid off lf pr wh mo fr to oA on oc dA dn dc 0 o (HO.out.only_nil QB.out) HOC.out hon40 hdn ho0 ho1).mono ?_
  rintro x w2 ⟨v1, rfl, h1, q1⟩
  refine hK _ _ (Same.only q1 OB.out.lt) ?_
  clear hK K
  try simp only [Act.put, List.setIfInBounds_toArray, List.set_cons_zero, List.set_cons_succ]
  have OB := hid (OB.out.only q1 (by simp)); have QB := hid (QB.out.trans q1); obtain ⟨A1, cap1, ev1, _, _, r1, _⟩ := h1.slice; have RV := hid r1; subst ev1; clear h1 q1 r1
  refine rgn.Walk.es ?_
  refine rgn.stepE rfl rfl (fun K hK => ?_)
  go_simp
  refine (oct.sum1 _ A1 _ cap1 _ RV.out (by rw [HLN.out]; omega)).mono ?_
  rintro x w3 ⟨rfl, m3, rfl⟩
  rw [← HSU.out]
  refine hK _ _ (show Same _ _ _ from rfl) ?_
  clear hK K
  try simp only [Act.put, List.setIfInBounds_toArray, List.set_cons_zero, List.set_cons_succ]
  have OB := hid (OB.out.drewN m3); have QB := hid (QB.out.drewN m3)
  refine rgn.Walk.es ?_
  refine rgn.stepE rfl rfl (fun K hK => ?_)
  go_simp
  refine (header1 _ sv pid off lf pr wh mo fr to oA on oc dA dn dc sm o (HO.out.only_nil QB.out) HOC.out hon40 hdn ho0 ho1).mono ?_
  rintro x w4 ⟨v4, rfl, h4, q4⟩
  refine hK _ _ (Same.only q4 OB.out.lt) ?_
  clear hK K
  try simp only [Act.put, List.setIfInBounds_toArray, List.set_cons_zero, List.set_cons_succ]
  have sz := QB.out.size; have V4 := hid (h4.mono_base sz); clear sz; have OB := hid (OB.out.only q4 (by simp)); have QB := hid (QB.out.trans q4)
  have VN := hid (own_neP6 OB.out V4.out); clear h4 q4
  refine rgn.Walk.es ?_
  refine rgn.stepE rfl rfl (fun K hK => ?_)
  refine opApp rfl (.tmp 14) (.tmp 16) _ rfl hlp.elemB w.heap.size _ _ rfl V4.out dA dn dc d rfl (HD.out.only_nil QB.out) HDC.out (by rw [HLN.out]; omega) (by rw [HLN.out]; unfold maxLen; omega) QB.out.size ?_
  intro v5 w5 hv5 hg5 hb5
  refine hK _ _ (Same.grown hg5 OB.out.lt VN.out) ?_
  clear hK K
  try simp only [Act.put, List.setIfInBounds_toArray, List.set_cons_zero, List.set_cons_succ]
  have V5 := hid hv5; have QB := hid (QB.out.own_grown V4.out hg5 (Nat.le_refl _)); clear hv5 hg5 hb5
  refine rgn.Walk.es ?_
  refine rgn.stepE rfl rfl (fun K hK => ?_)
  go_simp
  refine hK _ _ ((Same.refl w.heap.size) _) ?_
  clear hK K
  try simp only [Act.put, List.setIfInBounds_toArray, List.set_cons_zero, List.set_cons_succ]
  refine rgn.Walk.es ?_
  refine rgn.stepE rfl rfl (fun K hK => ?_)
  go_simp
  refine hK _ _ ((Same.refl w.heap.size) _) ?_
  clear hK K
  try simp only [Act.put, List.setIfInBounds_toArray, List.set_cons_zero, List.set_cons_succ]
  refine rgn.Walk.zs (NoPanic.normal ?_)
  go_wp2
  go_ret2
  exact ⟨_, rfl, by rw [HEN.out]; exact V5.out, QB.out⟩
end Go.Proofs.Ytngaolagifgfjaa.ip
