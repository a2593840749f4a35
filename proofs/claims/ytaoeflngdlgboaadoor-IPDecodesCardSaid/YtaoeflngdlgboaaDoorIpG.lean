/-
  Chapter 6 (ipv4): the document's own Encode, and a law: any packet is its header with its sum, and its data, or refused. Conditions: none but those typed.
-/
import Derived.Test.YtaoeflngdlgboaaDoorIpF
import Derived.Test.YtaoeflngdlgboaaDoorIpK
namespace Go.Proofs.YtaoeflngdlgboaaDoor.ip
set_option linter.unusedVariables false
set_option linter.unusedSimpArgs false
open Go.ChangeShapes Go.WideShapes Go.ChangeAt Go.RowKit Go.IntWalk Go.Lib
set_option maxHeartbeats 4000000 in
theorem rencE (w : World) (sv pid off lf pr : Int) (wh mo : Bool) (fr to : Int) (oA : Option Addr) (on oc : Nat) (dA : Option Addr) (dn dc : Nat) (o : List Int) (ho : Rd .u8 w oA on o) (hnc : on ≤ oc) (hcm : oc ≤ maxLen) (hn : on ≤ 100000) (hdn : dn ≤ 100000) (h : chk sv pid off lf pr o dn ≠ 0) :
    Calls Tryd.prog 14 #[.agg #[.int .i64 sv, .int .i64 pid, .bool wh, .bool mo, .int .i64 off, .int .i64 lf, .int .i64 pr, .int .u32 fr, .int .u32 to, .slice oA on oc, .slice dA dn dc]] w fun x w' => x = .returned (.tuple #[.slice none 0 0, .int .i64 (chk sv pid off lf pr o dn)]) ∧ Only [] w w' := by
  have QB : Hid (Only [] w (w.alloc (.cells #[.int .i64 sv, .int .i64 pid, .bool wh, .bool mo, .int .i64 off, .int .i64 lf, .int .i64 pr, .int .u32 fr, .int .u32 to, .slice oA on oc, .slice dA dn dc] 26))) := hid ((Only.refl [] w).alloc _)
  have HCK := hid (may1 (w.alloc (.cells #[.int .i64 sv, .int .i64 pid, .bool wh, .bool mo, .int .i64 off, .int .i64 lf, .int .i64 pr, .int .u32 fr, .int .u32 to, .slice oA on oc, .slice dA dn dc] 26)) sv pid off lf pr wh mo fr to oA on oc dA dn dc o (ho.only_nil QB.out) hnc hcm hn hdn)
  generalize hE : chk sv pid off lf pr o dn = er at *
  have HE := hid hE
  have d1 : (er != 0) = true := by simpa using h
  clear hE ho h
  go_enter Tryd.func14, Tryd.ntmps14
  go_wp2_with fail
  refine HCK.out.mono ?_
  rintro x w1 ⟨rfl, o1⟩
  have Q1 := hid (QB.out.trans o1); clear o1
  go_wp2
  go_ret2
  exact ⟨rfl, Q1.out⟩
set_option maxRecDepth 100000 in
set_option maxHeartbeats 8000000 in
theorem renc1 (w : World) (sv pid off lf pr : Int) (wh mo : Bool) (fr to : Int) (oA : Option Addr) (on oc : Nat) (dA : Option Addr) (dn dc : Nat) (o d : List Int) (ho : Rd .u8 w oA on o) (hoc : oA = none → oc = 0) (hnc : on ≤ oc) (hcm : oc ≤ maxLen) (hn : on ≤ 100000) (hd : Rd .u8 w dA dn d) (hdc : dA = none → dc = 0) (hdn : dn ≤ 100000) (h : chk sv pid off lf pr o dn = 0) :
    Calls Tryd.prog 14 #[.agg #[.int .i64 sv, .int .i64 pid, .bool wh, .bool mo, .int .i64 off, .int .i64 lf, .int .i64 pr, .int .u32 fr, .int .u32 to, .slice oA on oc, .slice dA dn dc]] w fun x w' => ∃ v, x = .returned (.tuple #[v, .int .i64 0]) ∧ Own .u8 5 w' w.heap.size v (encP sv pid off lf pr wh mo fr to o d) ∧ Only [] w w' := by
  obtain ⟨hN, hn40, hok, hll⟩ := chk0 h
  have hon : o.length = on := ho.len
  have HN := hid hN
  unfold Nums at hN
  have hon40 : on ≤ 40 := by omega
  have HDL := hid hd.len
  have QB : Hid (Only [] w (w.alloc (.cells #[.int .i64 sv, .int .i64 pid, .bool wh, .bool mo, .int .i64 off, .int .i64 lf, .int .i64 pr, .int .u32 fr, .int .u32 to, .slice oA on oc, .slice dA dn dc] 26))) := hid ((Only.refl [] w).alloc _)
  have OB : Hid (Ob (w.alloc (.cells #[.int .i64 sv, .int .i64 pid, .bool wh, .bool mo, .int .i64 off, .int .i64 lf, .int .i64 pr, .int .u32 fr, .int .u32 to, .slice oA on oc, .slice dA dn dc] 26)) w.heap.size 26 #[.int .i64 sv, .int .i64 pid, .bool wh, .bool mo, .int .i64 off, .int .i64 lf, .int .i64 pr, .int .u32 fr, .int .u32 to, .slice oA on oc, .slice dA dn dc]) := hid (Ob.new _ _ _)
  have HCK := hid (may1 (w.alloc (.cells #[.int .i64 sv, .int .i64 pid, .bool wh, .bool mo, .int .i64 off, .int .i64 lf, .int .i64 pr, .int .u32 fr, .int .u32 to, .slice oA on oc, .slice dA dn dc] 26)) sv pid off lf pr wh mo fr to oA on oc dA dn dc o (ho.only_nil QB.out) hnc hcm hn hdn)
  rw [h] at HCK
  have HO := hid ho; have HD := hid hd; have HOC := hid hoc; have HDC := hid hdc
  have hhl := hl_bd on
  have HLN : Hid (∀ s, (hdr sv pid off lf pr wh mo fr to o dn s).length = hl on) := hid (fun s => by rw [hdr_len, hon])
  have HEN : Hid (encP sv pid off lf pr wh mo fr to o d = hdr sv pid off lf pr wh mo fr to o dn (sumH sv pid off lf pr wh mo fr to o dn) ++ d) := hid (by unfold encP; rw [HDL.out])
  have hoff : 0 ≤ off := by omega
  clear h hN hll hok ho hd hoc hdc hcm
  go_enter Tryd.func14, Tryd.ntmps14
  go_wp2_with fail
  refine HCK.out.mono ?_
  rintro x w1 ⟨rfl, o1⟩
  have OB := hid (OB.out.only o1 (by simp)); have QB := hid (QB.out.trans o1); clear o1 HCK
  have k0 := OB.out.cell 0; have k1 := OB.out.cell 1; have k2 := OB.out.cell 2; have k3 := OB.out.cell 3; have k4 := OB.out.cell 4; have k5 := OB.out.cell 5; have k6 := OB.out.cell 6; have k7 := OB.out.cell 7; have k8 := OB.out.cell 8; have k9 := OB.out.cell 9; have k10 := OB.out.cell 10
  go_wp2_with fail
  clear k0 k1 k2 k3 k4 k5 k6 k7 k8 k9 k10
  refine wp_region_noPanic ?_
  refine rgn.regionT (R := Same w.heap.size) (by kernel_rfl) (Same.refl w.heap.size) (Same.trans (g := w.heap.size)) (fun _ _ _ _ _ h => h) (.y 0 (.y 1 (.y 2 (.y 3 (.y 5 (.y 6 (.e 4 (.e 7 (.e 8 (.e 9 .z)))))))))) (by kernel_rfl) (fun W hWd => ?_)
  have HWd := hid hWd; clear hWd
  have OB := hid (OB.out.eq_drew HWd.out); have QB := hid (QB.out.eq_drew HWd.out)
  refine rgn.Walk.ys (v := ?_) rfl rfl rfl ?_ ?_
  rotate_left 1
  · intro W' hW'
    have k0 := (OB.out.same hW').cell 0; have k1 := (OB.out.same hW').cell 1; have k2 := (OB.out.same hW').cell 2; have k3 := (OB.out.same hW').cell 3; have k4 := (OB.out.same hW').cell 4; have k5 := (OB.out.same hW').cell 5; have k6 := (OB.out.same hW').cell 6; have k7 := (OB.out.same hW').cell 7; have k8 := (OB.out.same hW').cell 8; have k9 := (OB.out.same hW').cell 9; have k10 := (OB.out.same hW').cell 10
    go_simp
    try with_reducible rfl
  try simp only [Act.put, List.setIfInBounds_toArray, List.set_cons_zero, List.set_cons_succ]
  refine rgn.Walk.ys (v := ?_) rfl rfl rfl ?_ ?_
  rotate_left 1
  · intro W' hW'
    go_simp
    try with_reducible rfl
  try simp only [Act.put, List.setIfInBounds_toArray, List.set_cons_zero, List.set_cons_succ]
  refine rgn.Walk.ys (v := ?_) rfl rfl rfl ?_ ?_
  rotate_left 1
  · intro W' hW'
    have k0 := (OB.out.same hW').cell 0; have k1 := (OB.out.same hW').cell 1; have k2 := (OB.out.same hW').cell 2; have k3 := (OB.out.same hW').cell 3; have k4 := (OB.out.same hW').cell 4; have k5 := (OB.out.same hW').cell 5; have k6 := (OB.out.same hW').cell 6; have k7 := (OB.out.same hW').cell 7; have k8 := (OB.out.same hW').cell 8; have k9 := (OB.out.same hW').cell 9; have k10 := (OB.out.same hW').cell 10
    go_simp
    try with_reducible rfl
  try simp only [Act.put, List.setIfInBounds_toArray, List.set_cons_zero, List.set_cons_succ]
  refine rgn.Walk.ys (v := ?_) rfl rfl rfl ?_ ?_
  rotate_left 1
  · intro W' hW'
    go_simp
    try with_reducible rfl
  try simp only [Act.put, List.setIfInBounds_toArray, List.set_cons_zero, List.set_cons_succ]
  refine rgn.Walk.ys (v := ?_) rfl rfl rfl ?_ ?_
  rotate_left 1
  · intro W' hW'
    go_simp
    try with_reducible rfl
  try simp only [Act.put, List.setIfInBounds_toArray, List.set_cons_zero, List.set_cons_succ]
  refine rgn.Walk.ys (v := ?_) rfl rfl rfl ?_ ?_
  rotate_left 1
  · intro W' hW'
    have k0 := (OB.out.same hW').cell 0; have k1 := (OB.out.same hW').cell 1; have k2 := (OB.out.same hW').cell 2; have k3 := (OB.out.same hW').cell 3; have k4 := (OB.out.same hW').cell 4; have k5 := (OB.out.same hW').cell 5; have k6 := (OB.out.same hW').cell 6; have k7 := (OB.out.same hW').cell 7; have k8 := (OB.out.same hW').cell 8; have k9 := (OB.out.same hW').cell 9; have k10 := (OB.out.same hW').cell 10
    go_simp
    try with_reducible rfl
  try simp only [Act.put, List.setIfInBounds_toArray, List.set_cons_zero, List.set_cons_succ]
  refine rgn.Walk.es ?_
  refine rgn.stepE rfl rfl (fun K hK => ?_)
  go_simp
  refine (rhdr _ sv pid off lf pr wh mo fr to oA on oc dA dn dc o (HO.out.only_nil QB.out) HOC.out hon40 hdn HN.out).mono ?_
  rintro x w4 ⟨v4, rfl, h4, q4⟩
  refine hK _ _ (Same.only q4 OB.out.lt) ?_
  clear hK K
  try simp only [Act.put, List.setIfInBounds_toArray, List.set_cons_zero, List.set_cons_succ]
  have sz := QB.out.size; have V4 := hid (h4.mono_base sz); clear sz; have OB := hid (OB.out.only q4 (by simp)); have QB := hid (QB.out.trans q4)
  have VN := hid (own_neP6 OB.out V4.out); clear h4 q4
  refine rgn.Walk.es ?_
  refine rgn.stepE rfl rfl (fun K hK => ?_)
  refine opApp rfl (.tmp 14) (.tmp 16) _ rfl hlp.elemB w.heap.size _ _ rfl V4.out dA dn dc d rfl (HD.out.only_nil QB.out) HDC.out (by rw [HLN.out]; omega) (by rw [HLN.out]; unfold maxLen; omega) QB.out.size ?_
  intro v5 w5 hv5 hg5 hb5
  refine hK _ _ (Same.grown hg5 OB.out.lt VN.out) ?_
  clear hK K
  try simp only [Act.put, List.setIfInBounds_toArray, List.set_cons_zero, List.set_cons_succ]
  have V5 := hid hv5; have QB := hid (QB.out.own_grown V4.out hg5 (Nat.le_refl _)); clear hv5 hg5 hb5
  refine rgn.Walk.es ?_
  refine rgn.stepE rfl rfl (fun K hK => ?_)
  go_simp
  refine hK _ _ ((Same.refl w.heap.size) _) ?_
  clear hK K
  try simp only [Act.put, List.setIfInBounds_toArray, List.set_cons_zero, List.set_cons_succ]
  refine rgn.Walk.es ?_
  refine rgn.stepE rfl rfl (fun K hK => ?_)
  go_simp
  refine hK _ _ ((Same.refl w.heap.size) _) ?_
  clear hK K
  try simp only [Act.put, List.setIfInBounds_toArray, List.set_cons_zero, List.set_cons_succ]
  refine rgn.Walk.zs (NoPanic.normal ?_)
  go_wp2
  go_ret2
  exact ⟨_, rfl, by rw [HEN.out]; exact V5.out, QB.out⟩
theorem long1 (w : World) (sv pid off lf pr : Int) (wh mo : Bool) (fr to : Int) (oA : Option Addr) (on oc : Nat) (dA : Option Addr) (dn dc : Nat) : Calls Tryd.prog 11 #[.agg #[.int .i64 sv, .int .i64 pid, .bool wh, .bool mo, .int .i64 off, .int .i64 lf, .int .i64 pr, .int .u32 fr, .int .u32 to, .slice oA on oc, .slice dA dn dc]] w fun x w' => x = .returned (.bool (decide (70000 < dn ∨ 4000 < on))) ∧ Only [] w w' := by
  have QB : Hid (Only [] w (w.alloc (.cells #[.int .i64 sv, .int .i64 pid, .bool wh, .bool mo, .int .i64 off, .int .i64 lf, .int .i64 pr, .int .u32 fr, .int .u32 to, .slice oA on oc, .slice dA dn dc] 26))) := hid ((Only.refl [] w).alloc _)
  by_cases h1 : 70000 < dn
  · have HE : Hid (decide (70000 < dn ∨ 4000 < on) = true) := hid (decide_eq_true (.inl h1))
    have d1 : decide ((70000 : Int) < dn) = true := decide_eq_true (by omega)
    go_enter Tryd.func11, Tryd.ntmps11
    go_wp2
    all_goals first | (exfalso; omega) | (go_ret; exact ⟨rBool HE.out.symm, QB.out⟩)
  · have d1 : decide ((70000 : Int) < dn) = false := decide_eq_false (by omega)
    by_cases h2 : 4000 < on
    · have HE : Hid (decide (70000 < dn ∨ 4000 < on) = true) := hid (decide_eq_true (.inr h2))
      have d2 : decide ((4000 : Int) < on) = true := decide_eq_true (by omega)
      go_enter Tryd.func11, Tryd.ntmps11
      go_wp2
      all_goals first | (exfalso; omega) | (go_ret; exact ⟨rBool HE.out.symm, QB.out⟩)
    · have HE : Hid (decide (70000 < dn ∨ 4000 < on) = false) := hid (decide_eq_false (by omega))
      have d2 : decide ((4000 : Int) < on) = false := decide_eq_false (by omega)
      go_enter Tryd.func11, Tryd.ntmps11
      go_wp2
      all_goals first | (exfalso; omega) | (go_ret; exact ⟨rBool HE.out.symm, QB.out⟩)
set_option maxRecDepth 100000 in
set_option maxHeartbeats 8000000 in
theorem encodes (w : World) (sv pid off lf pr : Int) (wh mo : Bool) (fr to : Int) (oA : Option Addr) (on oc : Nat) (dA : Option Addr) (dn dc : Nat) (m : Int) (o d : List Int) (ho : Rd .u8 w oA on o) (hoc : oA = none → oc = 0) (hnc : on ≤ oc) (hcm : oc ≤ maxLen) (hd : Rd .u8 w dA dn d) (hdc : dA = none → dc = 0) (hm : w.cell? ⟨1, 0, none⟩ = some (.int .i64 m)) (ht : Lib.TabIs Tryd.prog w "internal/strconv.uint64pow10" .u64 Lib.pow10Tab) :
    Calls Tryd.prog 3 #[.agg #[.int .i64 sv, .int .i64 pid, .bool wh, .bool mo, .int .i64 off, .int .i64 lf, .int .i64 pr, .int .u32 fr, .int .u32 to, .slice oA on oc, .slice dA dn dc]] w fun x w' => x = .returned (.bool true) ∧ Only [] w w' := by
  have HM := hid hm; have HT := hid ht; clear hm ht
  have HO := hid ho; have HD := hid hd; have HOC := hid hoc; have HDC := hid hdc
  have HOL := hid ho.len; have HDL := hid hd.len
  have HCM := hid hcm
  clear ho hd hoc hdc hcm
  have QB : Hid (Only [] w (w.alloc (.cells #[.int .i64 sv, .int .i64 pid, .bool wh, .bool mo, .int .i64 off, .int .i64 lf, .int .i64 pr, .int .u32 fr, .int .u32 to, .slice oA on oc, .slice dA dn dc] 26))) := hid ((Only.refl [] w).alloc _)
  have OB : Hid (Ob (w.alloc (.cells #[.int .i64 sv, .int .i64 pid, .bool wh, .bool mo, .int .i64 off, .int .i64 lf, .int .i64 pr, .int .u32 fr, .int .u32 to, .slice oA on oc, .slice dA dn dc] 26)) w.heap.size 26 #[.int .i64 sv, .int .i64 pid, .bool wh, .bool mo, .int .i64 off, .int .i64 lf, .int .i64 pr, .int .u32 fr, .int .u32 to, .slice oA on oc, .slice dA dn dc]) := hid (Ob.new _ _ _)
  have k0 := OB.out.cell 0; have k1 := OB.out.cell 1; have k2 := OB.out.cell 2; have k3 := OB.out.cell 3; have k4 := OB.out.cell 4; have k5 := OB.out.cell 5; have k6 := OB.out.cell 6; have k7 := OB.out.cell 7; have k8 := OB.out.cell 8; have k9 := OB.out.cell 9; have k10 := OB.out.cell 10
  have hLong := long1 (w.alloc (.cells #[.int .i64 sv, .int .i64 pid, .bool wh, .bool mo, .int .i64 off, .int .i64 lf, .int .i64 pr, .int .u32 fr, .int .u32 to, .slice oA on oc, .slice dA dn dc] 26)) sv pid off lf pr wh mo fr to oA on oc dA dn dc
  by_cases hlong : 70000 < dn ∨ 4000 < on
  · rw [show decide (70000 < dn ∨ 4000 < on) = true from decide_eq_true hlong] at hLong
    have hLong := hid hLong
    go_enter Tryd.func3, Tryd.ntmps3
    go_wp2_with fail
    refine hLong.out.mono ?_
    rintro x w1 ⟨rfl, o1⟩
    have QB := hid (QB.out.trans o1)
    go_wp2
    go_ret
    exact ⟨rfl, QB.out⟩
  · rw [show decide (70000 < dn ∨ 4000 < on) = false from decide_eq_false hlong] at hLong
    have hLong := hid hLong
    have hd7 : dn ≤ 70000 := by omega
    have ho4 : on ≤ 4000 := by omega
    clear hlong
    go_enter Tryd.func3, Tryd.ntmps3
    go_wp2_with fail
    refine hLong.out.mono ?_
    rintro x w1 ⟨rfl, o1⟩
    have QB := hid (QB.out.trans o1); have OB := hid (OB.out.only o1 (by simp)); clear o1 k0 k1 k2 k3 k4 k5 k6 k7 k8 k9 k10
    have k0 := OB.out.cell 0; have k1 := OB.out.cell 1; have k2 := OB.out.cell 2; have k3 := OB.out.cell 3; have k4 := OB.out.cell 4; have k5 := OB.out.cell 5; have k6 := OB.out.cell 6; have k7 := OB.out.cell 7; have k8 := OB.out.cell 8; have k9 := OB.out.cell 9; have k10 := OB.out.cell 10
    go_wp2_with fail
    refine (hlp.roomy _ dA dn dc d (HD.out.only_nil QB.out) HDC.out (by omega)).mono ?_
    rintro x w2 ⟨g1, cap1, rfl, hv1, o2⟩
    have R1 := hid hv1.rd; have h1c : dn + 1 ≤ cap1 := by have := hv1.len; omega
    have P1 : Hid (Rd .u8 w2 (some ⟨g1, 0, none⟩) dn d) := hid (by have h := (hv1.pre (m := dn) (by omega)).rd; rwa [List.take_append_of_le_length (by rw [HDL.out]; exact Nat.le_refl _), List.take_of_length_le (by rw [HDL.out]; exact Nat.le_refl _)] at h)
    have M1 : Hid (cap1 ≤ maxLen) := hid hv1.len.2.2
    have QB := hid (QB.out.trans o2); have OB := hid (OB.out.only o2 (by simp)); clear o2 hv1 k0 k1 k2 k3 k4 k5 k6 k7 k8 k9 k10
    have k0 := OB.out.cell 0; have k1 := OB.out.cell 1; have k2 := OB.out.cell 2; have k3 := OB.out.cell 3; have k4 := OB.out.cell 4; have k5 := OB.out.cell 5; have k6 := OB.out.cell 6; have k7 := OB.out.cell 7; have k8 := OB.out.cell 8; have k9 := OB.out.cell 9; have k10 := OB.out.cell 10
    go_wp2_with fail
    refine (hlp.roomy _ oA on oc o (HO.out.only_nil QB.out) HOC.out (by omega)).mono ?_
    rintro x w3 ⟨g2, cap2, rfl, hv2, o3⟩
    have R2 := hid hv2.rd; have h2c : on + 1 ≤ cap2 := by have := hv2.len; omega
    have P2 : Hid (Rd .u8 w3 (some ⟨g2, 0, none⟩) on o) := hid (by have h := (hv2.pre (m := on) (by omega)).rd; rwa [List.take_append_of_le_length (by rw [HOL.out]; exact Nat.le_refl _), List.take_of_length_le (by rw [HOL.out]; exact Nat.le_refl _)] at h)
    have M2 : Hid (cap2 ≤ maxLen) := hid hv2.len.2.2
    have P1 := hid (P1.out.only_nil o3); have R1 := hid (R1.out.only_nil o3)
    have QB := hid (QB.out.trans o3); have OB := hid (OB.out.only o3 (by simp)); clear o3 hv2 k0 k1 k2 k3 k4 k5 k6 k7 k8 k9 k10
    have k0 := OB.out.cell 0; have k1 := OB.out.cell 1; have k2 := OB.out.cell 2; have k3 := OB.out.cell 3; have k4 := OB.out.cell 4; have k5 := OB.out.cell 5; have k6 := OB.out.cell 6; have k7 := OB.out.cell 7; have k8 := OB.out.cell 8; have k9 := OB.out.cell 9; have k10 := OB.out.cell 10
    have hbl : w.heap.size < w3.heap.size := OB.out.lt
    have hc1 : dn ≤ cap1 := by omega
    have hc2 : on ≤ cap2 := by omega
    have HX : Hid (Only [] w3 (w3.alloc (.cells #[.int .i64 sv, .int .i64 pid, .bool wh, .bool mo, .int .i64 off, .int .i64 lf, .int .i64 pr, .int .u32 fr, .int .u32 to, .slice (some ⟨g2, 0, none⟩) on cap2, .slice (some ⟨g1, 0, none⟩) dn cap1] 26))) := hid ((Only.refl [] w3).alloc _)
    have OB2 := hid (OB.out.only HX.out (by simp))
    by_cases hch : chk sv pid off lf pr o dn = 0
    · go_wp2_with fail
      clear k0 k1 k2 k3 k4 k5 k6 k7 k8 k9 k10
      refine (enc1 _ sv pid off lf pr wh mo fr to (some ⟨g2, 0, none⟩) on cap2 (some ⟨g1, 0, none⟩) dn cap1 o d (P2.out.only_nil HX.out) (by simp) hc2 M2.out (by omega) (P1.out.only_nil HX.out) (by simp) (by omega) hch).mono ?_
      rintro x w5 ⟨v5, rfl, hv5, q5⟩
      have HX := hid (HX.out.trans q5); have OB := hid (OB2.out.only q5 (by simp))
      have V5 := hid hv5
      clear hv5 q5
      have k0 := OB.out.cell 0; have k1 := OB.out.cell 1; have k2 := OB.out.cell 2; have k3 := OB.out.cell 3; have k4 := OB.out.cell 4; have k5 := OB.out.cell 5; have k6 := OB.out.cell 6; have k7 := OB.out.cell 7; have k8 := OB.out.cell 8; have k9 := OB.out.cell 9; have k10 := OB.out.cell 10
      have HQX := hid (QB.out.trans HX.out)
      go_wp2_with fail
      clear k0 k1 k2 k3 k4 k5 k6 k7 k8 k9 k10
      refine (renc1 _ sv pid off lf pr wh mo fr to oA on oc dA dn dc o d (HO.out.only_nil HQX.out) HOC.out hnc HCM.out (by omega) (HD.out.only_nil HQX.out) HDC.out (by omega) hch).mono ?_
      rintro x w6 ⟨v6, rfl, hv6, q6⟩
      obtain ⟨A5, c5, ev5, _, _, r5, _⟩ := (V5.out.only_nil q6).slice
      obtain ⟨A6, c6, ev6, _, _, r6, _⟩ := hv6.slice
      have RV := hid r5; have RW := hid r6
      have hle : (encP sv pid off lf pr wh mo fr to o d).length ≤ 100000 := by unfold encP; rw [List.length_append, hdr_len, HOL.out, HDL.out]; have := hl_bd on; omega
      have HX := hid (HX.out.trans q6); have OB := hid (OB.out.only q6 (by simp))
      subst ev5 ev6
      clear r5 r6 hv6 q6 hch V5 HQX
      have k0 := OB.out.cell 0; have k1 := OB.out.cell 1; have k2 := OB.out.cell 2; have k3 := OB.out.cell 3; have k4 := OB.out.cell 4; have k5 := OB.out.cell 5; have k6 := OB.out.cell 6; have k7 := OB.out.cell 7; have k8 := OB.out.cell 8; have k9 := OB.out.cell 9; have k10 := OB.out.cell 10
      go_wp2_with fail
      refine (hlp.same _ _ _ _ _ _ _ _ _ RV.out RW.out (by omega) (by omega)).mono ?_
      rintro x w9 ⟨rfl, q9, rfl⟩
      rw [show decide (encP sv pid off lf pr wh mo fr to o d = encP sv pid off lf pr wh mo fr to o d) = true from decide_eq_true rfl]
      have HX := hid (HX.out.drewN q9); have OB := hid (OB.out.drewN q9)
      clear k0 k1 k2 k3 k4 k5 k6 k7 k8 k9 k10
      have k0 := OB.out.cell 0; have k1 := OB.out.cell 1; have k2 := OB.out.cell 2; have k3 := OB.out.cell 3; have k4 := OB.out.cell 4; have k5 := OB.out.cell 5; have k6 := OB.out.cell 6; have k7 := OB.out.cell 7; have k8 := OB.out.cell 8; have k9 := OB.out.cell 9; have k10 := OB.out.cell 10
      have HQ := QB
      go_wp2_with fail
      refine (hlp.stands _ _ _ dn _ dc d (R1.out.only_nil HX.out) h1c (HD.out.only_nil (HQ.out.trans HX.out)) (by omega)).mono ?_
      rintro x w10 ⟨rfl, q10, hw10⟩
      have o10 : Only [] (w6.drewN q9) w10 := by rw [hw10]; exact (Only.refl [] _).drewN q10
      clear hw10
      have OB := hid (OB.out.only o10 (by simp)); have HX := hid (HX.out.trans o10); clear o10
      clear k0 k1 k2 k3 k4 k5 k6 k7 k8 k9 k10
      have k0 := OB.out.cell 0; have k1 := OB.out.cell 1; have k2 := OB.out.cell 2; have k3 := OB.out.cell 3; have k4 := OB.out.cell 4; have k5 := OB.out.cell 5; have k6 := OB.out.cell 6; have k7 := OB.out.cell 7; have k8 := OB.out.cell 8; have k9 := OB.out.cell 9; have k10 := OB.out.cell 10
      go_wp2_with fail
      refine (hlp.stands _ _ _ on _ oc o (R2.out.only_nil HX.out) h2c (HO.out.only_nil (HQ.out.trans HX.out)) (by omega)).mono ?_
      rintro x w11 ⟨rfl, q11, hw11⟩
      have o11 : Only [] w10 w11 := by rw [hw11]; exact (Only.refl [] _).drewN q11
      clear hw11
      have HX := hid (HX.out.trans o11); clear o11
      have HE := hid (HQ.out.trans HX.out)
      go_wp2_with fail
      refine (known _ m (HE.out.keep HM.out) (tab_only HT.out HE.out)).mono ?_
      rintro x w12 ⟨rfl, q12⟩
      have HE := hid (HE.out.trans q12)
      go_wp2
      go_ret
      exact ⟨rfl, HE.out⟩
    · have HCH := hid hch
      have heq : (chk sv pid off lf pr o dn == chk sv pid off lf pr o dn) = true := by simp
      have E1 := encE (w3.alloc (.cells #[.int .i64 sv, .int .i64 pid, .bool wh, .bool mo, .int .i64 off, .int .i64 lf, .int .i64 pr, .int .u32 fr, .int .u32 to, .slice (some ⟨g2, 0, none⟩) on cap2, .slice (some ⟨g1, 0, none⟩) dn cap1] 26)) sv pid off lf pr wh mo fr to (some ⟨g2, 0, none⟩) on cap2 (some ⟨g1, 0, none⟩) dn cap1 o (P2.out.only_nil HX.out) hc2 M2.out (by omega) (by omega) hch
      have E2 := fun W (h : Only [] w W) => rencE W sv pid off lf pr wh mo fr to oA on oc dA dn dc o (HO.out.only_nil h) hnc HCM.out (by omega) (by omega) hch
      generalize chk sv pid off lf pr o dn = er at *
      have E1 := hid E1; have E2 := hid E2
      go_wp2_with fail
      clear k0 k1 k2 k3 k4 k5 k6 k7 k8 k9 k10
      refine E1.out.mono ?_
      rintro x w5 ⟨rfl, q5⟩
      have HX := hid (HX.out.trans q5); have OB := hid (OB2.out.only q5 (by simp))
      clear q5 hch
      have k0 := OB.out.cell 0; have k1 := OB.out.cell 1; have k2 := OB.out.cell 2; have k3 := OB.out.cell 3; have k4 := OB.out.cell 4; have k5 := OB.out.cell 5; have k6 := OB.out.cell 6; have k7 := OB.out.cell 7; have k8 := OB.out.cell 8; have k9 := OB.out.cell 9; have k10 := OB.out.cell 10
      go_wp2_with fail
      clear k0 k1 k2 k3 k4 k5 k6 k7 k8 k9 k10
      refine (E2.out _ (QB.out.trans HX.out)).mono ?_
      rintro x w6 ⟨rfl, q6⟩
      have HX := hid (HX.out.trans q6); have OB := hid (OB.out.only q6 (by simp))
      clear q6
      have k0 := OB.out.cell 0; have k1 := OB.out.cell 1; have k2 := OB.out.cell 2; have k3 := OB.out.cell 3; have k4 := OB.out.cell 4; have k5 := OB.out.cell 5; have k6 := OB.out.cell 6; have k7 := OB.out.cell 7; have k8 := OB.out.cell 8; have k9 := OB.out.cell 9; have k10 := OB.out.cell 10
      go_wp2_with fail
      refine (hlp.same _ _ _ _ _ _ _ [] [] (Rd.nil _ _ _) (Rd.nil _ _ _) (by omega) (by omega)).mono ?_
      rintro x w9 ⟨rfl, q9, rfl⟩
      rw [show decide (([] : List Int) = []) = true from rfl]
      have HX := hid (HX.out.drewN q9); have OB := hid (OB.out.drewN q9)
      clear k0 k1 k2 k3 k4 k5 k6 k7 k8 k9 k10
      have k0 := OB.out.cell 0; have k1 := OB.out.cell 1; have k2 := OB.out.cell 2; have k3 := OB.out.cell 3; have k4 := OB.out.cell 4; have k5 := OB.out.cell 5; have k6 := OB.out.cell 6; have k7 := OB.out.cell 7; have k8 := OB.out.cell 8; have k9 := OB.out.cell 9; have k10 := OB.out.cell 10
      have HQ := QB
      go_wp2_with fail
      refine (hlp.stands _ _ _ dn _ dc d (R1.out.only_nil HX.out) h1c (HD.out.only_nil (HQ.out.trans HX.out)) (by omega)).mono ?_
      rintro x w10 ⟨rfl, q10, hw10⟩
      have o10 : Only [] (w6.drewN q9) w10 := by rw [hw10]; exact (Only.refl [] _).drewN q10
      clear hw10
      have OB := hid (OB.out.only o10 (by simp)); have HX := hid (HX.out.trans o10); clear o10
      clear k0 k1 k2 k3 k4 k5 k6 k7 k8 k9 k10
      have k0 := OB.out.cell 0; have k1 := OB.out.cell 1; have k2 := OB.out.cell 2; have k3 := OB.out.cell 3; have k4 := OB.out.cell 4; have k5 := OB.out.cell 5; have k6 := OB.out.cell 6; have k7 := OB.out.cell 7; have k8 := OB.out.cell 8; have k9 := OB.out.cell 9; have k10 := OB.out.cell 10
      go_wp2_with fail
      refine (hlp.stands _ _ _ on _ oc o (R2.out.only_nil HX.out) h2c (HO.out.only_nil (HQ.out.trans HX.out)) (by omega)).mono ?_
      rintro x w11 ⟨rfl, q11, hw11⟩
      have o11 : Only [] w10 w11 := by rw [hw11]; exact (Only.refl [] _).drewN q11
      clear hw11
      have HX := hid (HX.out.trans o11); clear o11
      have HE := hid (HQ.out.trans HX.out)
      go_wp2_with fail
      refine (known _ m (HE.out.keep HM.out) (tab_only HT.out HE.out)).mono ?_
      rintro x w12 ⟨rfl, q12⟩
      have HE := hid (HE.out.trans q12)
      go_wp2
      go_ret
      exact ⟨rfl, HE.out⟩
end Go.Proofs.YtaoeflngdlgboaaDoor.ip
