/-
  Chapter 9 (icmp): what is quoted of a packet, by the code and by the document, by a walk of each text. Conditions: none but those typed.
-/
import Derived.Test.YtekanilgeigddaaIcqA
namespace Go.Proofs.Ytekanilgeigddaa.ip
set_option linter.unusedVariables false
set_option linter.unusedSimpArgs false
open Go.ChangeShapes Go.WideShapes Go.ChangeAt Go.RowKit Go.IntWalk Go.Lib
theorem sl_to (A : Option Addr) (n c k : Nat) (hk : k ≤ c) (W : World) : (Instr.slice 23 (.slice A n c) none (some (.int .i64 (k : Int))) none).run Try.prog W = .ok (.slice A k c) W := by
  have hk' : (k : Int) ≤ (c : Int) := by omega
  have ha : ∀ a : Addr, a.add 0 = a := fun a => by unfold Addr.add; split <;> simp_all
  rcases A with _ | a
  · go_simp
  · go_simp
def quo (sv pid off lf pr : Int) (wh mo : Bool) (fr to : Int) (o d : List Int) : List Int := hdr sv pid off lf pr wh mo fr to o d.length (sumH sv pid off lf pr wh mo fr to o d.length) ++ d.take 8
theorem quo_take (sv pid off lf pr : Int) (wh mo : Bool) (fr to : Int) (o d : List Int) (m : Nat) (hm : m = min d.length 8) : (encP sv pid off lf pr wh mo fr to o d).take (hl o.length + m) = quo sv pid off lf pr wh mo fr to o d := by
  subst hm
  unfold encP quo
  rw [← hdr_len sv pid off lf pr wh mo fr to o d.length (sumH sv pid off lf pr wh mo fr to o d.length), List.take_length_add_append, Nat.min_comm, ← List.take_take, List.take_length]
theorem quo_nums (H dn M N K : Nat) (hH : H ≤ 60) (hd : dn ≤ 100000) (hM : M = min dn 8) (hN : N = H + dn) (hK : K = H + M) :
    (if (8 : Int) < (dn : Int) then (8 : Int) else (dn : Int)) = (M : Int) ∧ wrap64 ((N : Int) - (dn : Int)) = (H : Int) ∧ wrap64 ((H : Int) + (M : Int)) = (K : Int) ∧ (N : Int) - (dn : Int) = (H : Int) ∧ (H : Int) + (M : Int) = (K : Int) ∧ K ≤ N ∧ K ≤ 68 ∧ wrap64 (H : Int) = (H : Int) ∧ wrap64 (K : Int) = (K : Int) := by
  have h1 : (N : Int) - (dn : Int) = (H : Int) := by omega
  have h2 : (H : Int) + (M : Int) = (K : Int) := by omega
  refine ⟨by split <;> omega, ?_, ?_, h1, h2, by omega, by omega, wrap64_in _ (by omega), wrap64_in _ (by omega)⟩
  · rw [h1]; exact wrap64_in _ (by omega)
  · rw [h2]; exact wrap64_in _ (by omega)
theorem own_neQ {w : World} {g base : Nat} {v : Value} {l : List Int} {cs : Array Value} (hO : Ob w g 46 cs) (hV : Own .u8 5 w base v l) : v.ownBlock ≠ some g := by
  intro hb
  rcases hV.1.2 with ⟨rfl, _⟩ | ⟨g', cap', cur, rfl, _, hh, _⟩
  · cases hb
  · have e : g' = g := by simpa [Value.ownBlock] using hb
    subst e
    unfold Ob at hO
    rw [hO] at hh
    injection hh with h1
    injection h1 with _ h2 _
    exact absurd h2 (by decide)
set_option maxHeartbeats 4000000 in
theorem quoteE (w : World) (sv pid off lf pr : Int) (wh mo : Bool) (fr to : Int) (oA : Option Addr) (on oc : Nat) (dA : Option Addr) (dn dc : Nat) (o : List Int) (ho : Rd .u8 w oA on o) (hnc : on ≤ oc) (hcm : oc ≤ maxLen) (hn : on ≤ 100000) (hdn : dn ≤ 100000) (h : chk sv pid off lf pr o dn ≠ 0) :
    Calls Try.prog 23 #[.agg #[.int .i64 sv, .int .i64 pid, .bool wh, .bool mo, .int .i64 off, .int .i64 lf, .int .i64 pr, .int .u32 fr, .int .u32 to, .slice oA on oc, .slice dA dn dc]] w fun x w' => x = .returned (.slice none 0 0) ∧ Only [] w w' := by
  have QB : Hid (Only [] w (w.alloc (.cells #[.int .i64 sv, .int .i64 pid, .bool wh, .bool mo, .int .i64 off, .int .i64 lf, .int .i64 pr, .int .u32 fr, .int .u32 to, .slice oA on oc, .slice dA dn dc] 46))) := hid ((Only.refl [] w).alloc _)
  have HCK := hid (encE (w.alloc (.cells #[.int .i64 sv, .int .i64 pid, .bool wh, .bool mo, .int .i64 off, .int .i64 lf, .int .i64 pr, .int .u32 fr, .int .u32 to, .slice oA on oc, .slice dA dn dc] 46)) sv pid off lf pr wh mo fr to oA on oc dA dn dc o (ho.only_nil QB.out) hnc hcm hn hdn h)
  generalize hE : chk sv pid off lf pr o dn = er at *
  have HE := hid hE
  have d1 : (er != 0) = true := by simpa using h
  clear hE ho h
  go_enter Try.func23, Try.ntmps23
  go_wp2_with fail
  refine HCK.out.mono ?_
  rintro x w1 ⟨rfl, o1⟩
  have Q1 := hid (QB.out.trans o1); clear o1
  go_wp2
  go_ret
  exact ⟨rfl, Q1.out⟩
set_option maxHeartbeats 4000000 in
theorem rquoteE (w : World) (sv pid off lf pr : Int) (wh mo : Bool) (fr to : Int) (oA : Option Addr) (on oc : Nat) (dA : Option Addr) (dn dc : Nat) (o : List Int) (ho : Rd .u8 w oA on o) (hnc : on ≤ oc) (hcm : oc ≤ maxLen) (hn : on ≤ 100000) (hdn : dn ≤ 100000) (h : chk sv pid off lf pr o dn ≠ 0) :
    Calls Try.prog 24 #[.agg #[.int .i64 sv, .int .i64 pid, .bool wh, .bool mo, .int .i64 off, .int .i64 lf, .int .i64 pr, .int .u32 fr, .int .u32 to, .slice oA on oc, .slice dA dn dc]] w fun x w' => x = .returned (.slice none 0 0) ∧ Only [] w w' := by
  have QB : Hid (Only [] w (w.alloc (.cells #[.int .i64 sv, .int .i64 pid, .bool wh, .bool mo, .int .i64 off, .int .i64 lf, .int .i64 pr, .int .u32 fr, .int .u32 to, .slice oA on oc, .slice dA dn dc] 46))) := hid ((Only.refl [] w).alloc _)
  have HCK := hid (may1 (w.alloc (.cells #[.int .i64 sv, .int .i64 pid, .bool wh, .bool mo, .int .i64 off, .int .i64 lf, .int .i64 pr, .int .u32 fr, .int .u32 to, .slice oA on oc, .slice dA dn dc] 46)) sv pid off lf pr wh mo fr to oA on oc dA dn dc o (ho.only_nil QB.out) hnc hcm hn hdn)
  generalize hE : chk sv pid off lf pr o dn = er at *
  have HE := hid hE
  have d1 : (er != 0) = true := by simpa using h
  clear hE ho h
  go_enter Try.func24, Try.ntmps24
  go_wp2_with fail
  refine HCK.out.mono ?_
  rintro x w1 ⟨rfl, o1⟩
  have Q1 := hid (QB.out.trans o1); clear o1
  go_wp2
  go_ret
  exact ⟨rfl, Q1.out⟩
set_option maxRecDepth 100000 in
set_option maxHeartbeats 8000000 in
theorem quote1 (w : World) (sv pid off lf pr : Int) (wh mo : Bool) (fr to : Int) (oA : Option Addr) (on oc : Nat) (dA : Option Addr) (dn dc : Nat) (o d : List Int) (ho : Rd .u8 w oA on o) (hoc : oA = none → oc = 0) (hnc : on ≤ oc) (hcm : oc ≤ maxLen) (hn : on ≤ 100000) (hd : Rd .u8 w dA dn d) (hdc : dA = none → dc = 0) (hnd : dn ≤ dc) (hdn : dn ≤ 100000) (h : chk sv pid off lf pr o dn = 0) :
    Calls Try.prog 23 #[.agg #[.int .i64 sv, .int .i64 pid, .bool wh, .bool mo, .int .i64 off, .int .i64 lf, .int .i64 pr, .int .u32 fr, .int .u32 to, .slice oA on oc, .slice dA dn dc]] w fun x w' => ∃ v, x = .returned v ∧ Own .u8 5 w' w.heap.size v (quo sv pid off lf pr wh mo fr to o d) ∧ Only [] w w' := by
  obtain ⟨hN, hn40, hok, hll⟩ := chk0 h
  have hon : o.length = on := ho.len
  have HDL := hid hd.len
  have QB : Hid (Only [] w (w.alloc (.cells #[.int .i64 sv, .int .i64 pid, .bool wh, .bool mo, .int .i64 off, .int .i64 lf, .int .i64 pr, .int .u32 fr, .int .u32 to, .slice oA on oc, .slice dA dn dc] 46))) := hid ((Only.refl [] w).alloc _)
  have OB : Hid (Ob (w.alloc (.cells #[.int .i64 sv, .int .i64 pid, .bool wh, .bool mo, .int .i64 off, .int .i64 lf, .int .i64 pr, .int .u32 fr, .int .u32 to, .slice oA on oc, .slice dA dn dc] 46)) w.heap.size 46 #[.int .i64 sv, .int .i64 pid, .bool wh, .bool mo, .int .i64 off, .int .i64 lf, .int .i64 pr, .int .u32 fr, .int .u32 to, .slice oA on oc, .slice dA dn dc]) := hid (Ob.new _ _ _)
  have HCK := hid (enc1 (w.alloc (.cells #[.int .i64 sv, .int .i64 pid, .bool wh, .bool mo, .int .i64 off, .int .i64 lf, .int .i64 pr, .int .u32 fr, .int .u32 to, .slice oA on oc, .slice dA dn dc] 46)) sv pid off lf pr wh mo fr to oA on oc dA dn dc o d (ho.only_nil QB.out) hoc hnc hcm hn (hd.only_nil QB.out) hdc hdn h)
  have hhl := hl_bd on
  have hl60 : hl on ≤ 60 := by unfold hl; omega
  obtain ⟨M, hM⟩ : ∃ M, M = min dn 8 := ⟨_, rfl⟩
  obtain ⟨H, hH⟩ : ∃ H, hl on = H := ⟨_, rfl⟩
  obtain ⟨N, hN2⟩ : ∃ N, N = H + dn := ⟨_, rfl⟩
  obtain ⟨K, hK⟩ : ∃ K, K = H + M := ⟨_, rfl⟩
  have HTK : Hid ((encP sv pid off lf pr wh mo fr to o d).take K = quo sv pid off lf pr wh mo fr to o d) := hid (by rw [hK, ← hH, ← hon]; exact quo_take _ _ _ _ _ _ _ _ _ _ _ _ (by rw [HDL.out]; exact hM))
  have HEL : Hid ((encP sv pid off lf pr wh mo fr to o d).length = N) := hid (by unfold encP; rw [List.length_append, hdr_len, HDL.out, hon, hH, hN2])
  obtain ⟨m1, m2, m3, m4, m5, k1, k2, m6, m7⟩ := quo_nums H dn M N K (by rw [← hH]; exact hl60) hdn hM hN2 hK
  have kN : Hid (K ≤ N ∧ K ≤ 68) := hid ⟨k1, k2⟩
  clear k1 k2
  generalize encP sv pid off lf pr wh mo fr to o d = E at *
  have M1 := hid m1; have M2 := hid m2; have M3 := hid m3; have M4 := hid m4; have M5 := hid m5; have M6 := hid m6; have M7 := hid m7
  clear h hN hll hok ho hd hoc hdc hcm m1 m2 m3 m4 m5 m6 m7 hM hN2 hK hhl hl60 hH hn40
  go_enter Try.func23, Try.ntmps23
  go_wp2_with fail
  refine HCK.out.mono ?_
  rintro x w1 ⟨v, rfl, hv, o1⟩
  have OB := hid (OB.out.only o1 (by simp)); have QB := hid (QB.out.trans o1); clear o1 HCK
  obtain ⟨A1, cap1, ev, hle, hmx, hrd, hblk⟩ := hv.slice
  have hc0 : A1 = none → cap1 = 0 := by
    intro hA
    subst hA
    rcases hv.1.2 with ⟨e1, _⟩ | ⟨g', cap', cur, e1, _⟩
    · rw [e1] at ev; injection ev with _ _ e3; exact e3.symm
    · rw [e1] at ev; cases ev
  subst ev
  clear hv hblk
  rw [HEL.out] at hrd hle
  rw [HEL.out]
  have HC0 := hid hc0
  have RD := hid hrd
  have hsl := sl_to A1 N cap1 K (by have := kN.out; omega)
  clear hrd hc0 hmx hle
  have m1 := M1.out; have m2 := M2.out; have m3 := M3.out; have m4 := M4.out; have m5 := M5.out; have m6 := M6.out; have m7 := M7.out
  have k0 := OB.out.cell 0; have k1 := OB.out.cell 1; have k2 := OB.out.cell 2; have k3 := OB.out.cell 3; have k4 := OB.out.cell 4; have k5 := OB.out.cell 5; have k6 := OB.out.cell 6; have k7 := OB.out.cell 7; have k8 := OB.out.cell 8; have k9 := OB.out.cell 9; have k10 := OB.out.cell 10
  go_wp2_with fail
  have hk7 : K ≤ 70368744177664 := Nat.le_trans kN.out.2 (by decide)
  have RDK := hid (RD.out.take K kN.out.1)
  generalize E.take K = EK at HTK RDK
  refine (wrt.clone1 _ A1 K cap1 EK RDK.out HC0.out hk7).mono ?_
  rintro x w2 ⟨v2, rfl, hv2, o2⟩
  have V2 := hid (hv2.mono_base QB.out.size)
  have QB := hid (QB.out.trans o2)
  clear hv2 o2
  rw [HTK.out] at V2
  go_wp2
  go_ret
  exact ⟨_, rfl, V2.out, QB.out⟩
set_option maxRecDepth 100000 in
set_option maxHeartbeats 8000000 in
theorem rquote1 (w : World) (sv pid off lf pr : Int) (wh mo : Bool) (fr to : Int) (oA : Option Addr) (on oc : Nat) (dA : Option Addr) (dn dc : Nat) (o d : List Int) (ho : Rd .u8 w oA on o) (hoc : oA = none → oc = 0) (hnc : on ≤ oc) (hcm : oc ≤ maxLen) (hn : on ≤ 100000) (hd : Rd .u8 w dA dn d) (hdc : dA = none → dc = 0) (hnd : dn ≤ dc) (hdn : dn ≤ 100000) (h : chk sv pid off lf pr o dn = 0) :
    Calls Try.prog 24 #[.agg #[.int .i64 sv, .int .i64 pid, .bool wh, .bool mo, .int .i64 off, .int .i64 lf, .int .i64 pr, .int .u32 fr, .int .u32 to, .slice oA on oc, .slice dA dn dc]] w fun x w' => ∃ v, x = .returned v ∧ Own .u8 5 w' w.heap.size v (quo sv pid off lf pr wh mo fr to o d) ∧ Only [] w w' := by
  obtain ⟨hN, hn40, hok, hll⟩ := chk0 h
  have hon : o.length = on := ho.len
  have HN := hid hN
  have hon40 : on ≤ 40 := by omega
  have HDL := hid hd.len
  have QB : Hid (Only [] w (w.alloc (.cells #[.int .i64 sv, .int .i64 pid, .bool wh, .bool mo, .int .i64 off, .int .i64 lf, .int .i64 pr, .int .u32 fr, .int .u32 to, .slice oA on oc, .slice dA dn dc] 46))) := hid ((Only.refl [] w).alloc _)
  have OB : Hid (Ob (w.alloc (.cells #[.int .i64 sv, .int .i64 pid, .bool wh, .bool mo, .int .i64 off, .int .i64 lf, .int .i64 pr, .int .u32 fr, .int .u32 to, .slice oA on oc, .slice dA dn dc] 46)) w.heap.size 46 #[.int .i64 sv, .int .i64 pid, .bool wh, .bool mo, .int .i64 off, .int .i64 lf, .int .i64 pr, .int .u32 fr, .int .u32 to, .slice oA on oc, .slice dA dn dc]) := hid (Ob.new _ _ _)
  have HCK := hid (may1 (w.alloc (.cells #[.int .i64 sv, .int .i64 pid, .bool wh, .bool mo, .int .i64 off, .int .i64 lf, .int .i64 pr, .int .u32 fr, .int .u32 to, .slice oA on oc, .slice dA dn dc] 46)) sv pid off lf pr wh mo fr to oA on oc dA dn dc o (ho.only_nil QB.out) hnc hcm hn hdn)
  rw [h] at HCK
  have HO := hid ho; have HD := hid hd; have HOC := hid hoc; have HDC := hid hdc
  have hl60 : hl on ≤ 60 := by unfold hl; omega
  have HLN : Hid (∀ s, (hdr sv pid off lf pr wh mo fr to o dn s).length = hl on) := hid (fun s => by rw [hdr_len, hon])
  obtain ⟨M, hM⟩ : ∃ M, M = min dn 8 := ⟨_, rfl⟩
  have HML : Hid (M ≤ dn) := hid (by omega)
  have HML2 : Hid (M ≤ 8 ∧ hl on ≤ 60) := hid ⟨by omega, hl60⟩
  have HEN : Hid (quo sv pid off lf pr wh mo fr to o d = hdr sv pid off lf pr wh mo fr to o dn (sumH sv pid off lf pr wh mo fr to o dn) ++ d.take M) := hid (by unfold quo; rw [HDL.out, hM, Nat.min_comm, ← List.take_take, ← HDL.out, List.take_length])
  have m1 : (if (dn : Int) < 8 then (dn : Int) else 8) = (M : Int) := by split <;> omega
  have hsl := sl_to dA dn dc M (by omega)
  clear h hN hll hok ho hd hoc hdc hcm hM hl60
  go_enter Try.func24, Try.ntmps24
  go_wp2_with fail
  refine HCK.out.mono ?_
  rintro x w1 ⟨rfl, o1⟩
  have OB := hid (OB.out.only o1 (by simp)); have QB := hid (QB.out.trans o1); clear o1 HCK
  have k0 := OB.out.cell 0; have k1 := OB.out.cell 1; have k2 := OB.out.cell 2; have k3 := OB.out.cell 3; have k4 := OB.out.cell 4; have k5 := OB.out.cell 5; have k6 := OB.out.cell 6; have k7 := OB.out.cell 7; have k8 := OB.out.cell 8; have k9 := OB.out.cell 9; have k10 := OB.out.cell 10
  go_wp2_with fail
  clear k0 k1 k2 k3 k4 k5 k6 k7 k8 k9 k10
  refine wp_region_noPanic ?_
  refine rgn.regionT (R := Same w.heap.size) (by kernel_rfl) (Same.refl w.heap.size) (Same.trans (g := w.heap.size)) (fun _ _ _ _ _ h => h) (.y 0 (.y 1 (.y 2 (.y 3 (.y 5 (.y 6 (.y 7 (.y 8 (.y 9 (.y 10 (.y 11 (.e 4 (.e 12 (.e 13 .z)))))))))))))) (by kernel_rfl) (fun W hWd => ?_)
  have HWd := hid hWd; clear hWd
  have OB := hid (OB.out.eq_drew HWd.out); have QB := hid (QB.out.eq_drew HWd.out)
  refine rgn.Walk.ys (v := ?_) rfl rfl rfl ?_ ?_
  rotate_left 1
  · intro W' hW'
    have k0 := (OB.out.same hW').cell 0; have k1 := (OB.out.same hW').cell 1; have k2 := (OB.out.same hW').cell 2; have k3 := (OB.out.same hW').cell 3; have k4 := (OB.out.same hW').cell 4; have k5 := (OB.out.same hW').cell 5; have k6 := (OB.out.same hW').cell 6; have k7 := (OB.out.same hW').cell 7; have k8 := (OB.out.same hW').cell 8; have k9 := (OB.out.same hW').cell 9; have k10 := (OB.out.same hW').cell 10
    go_simp
    try with_reducible rfl
  try simp only [Act.put, List.setIfInBounds_toArray, List.set_cons_zero, List.set_cons_succ]
  refine rgn.Walk.ys (v := ?_) rfl rfl rfl ?_ ?_
  rotate_left 1
  · intro W' hW'
    go_simp
    try with_reducible rfl
  try simp only [Act.put, List.setIfInBounds_toArray, List.set_cons_zero, List.set_cons_succ]
  refine rgn.Walk.ys (v := ?_) rfl rfl rfl ?_ ?_
  rotate_left 1
  · intro W' hW'
    have k0 := (OB.out.same hW').cell 0; have k1 := (OB.out.same hW').cell 1; have k2 := (OB.out.same hW').cell 2; have k3 := (OB.out.same hW').cell 3; have k4 := (OB.out.same hW').cell 4; have k5 := (OB.out.same hW').cell 5; have k6 := (OB.out.same hW').cell 6; have k7 := (OB.out.same hW').cell 7; have k8 := (OB.out.same hW').cell 8; have k9 := (OB.out.same hW').cell 9; have k10 := (OB.out.same hW').cell 10
    go_simp
    try with_reducible rfl
  try simp only [Act.put, List.setIfInBounds_toArray, List.set_cons_zero, List.set_cons_succ]
  refine rgn.Walk.ys (v := ?_) rfl rfl rfl ?_ ?_
  rotate_left 1
  · intro W' hW'
    go_simp
    try with_reducible rfl
  try simp only [Act.put, List.setIfInBounds_toArray, List.set_cons_zero, List.set_cons_succ]
  refine rgn.Walk.ys (v := ?_) rfl rfl rfl ?_ ?_
  rotate_left 1
  · intro W' hW'
    go_simp
    try with_reducible rfl
  try simp only [Act.put, List.setIfInBounds_toArray, List.set_cons_zero, List.set_cons_succ]
  refine rgn.Walk.ys (v := ?_) rfl rfl rfl ?_ ?_
  rotate_left 1
  · intro W' hW'
    have k0 := (OB.out.same hW').cell 0; have k1 := (OB.out.same hW').cell 1; have k2 := (OB.out.same hW').cell 2; have k3 := (OB.out.same hW').cell 3; have k4 := (OB.out.same hW').cell 4; have k5 := (OB.out.same hW').cell 5; have k6 := (OB.out.same hW').cell 6; have k7 := (OB.out.same hW').cell 7; have k8 := (OB.out.same hW').cell 8; have k9 := (OB.out.same hW').cell 9; have k10 := (OB.out.same hW').cell 10
    go_simp
    try with_reducible rfl
  try simp only [Act.put, List.setIfInBounds_toArray, List.set_cons_zero, List.set_cons_succ]
  refine rgn.Walk.ys (v := ?_) rfl rfl rfl ?_ ?_
  rotate_left 1
  · intro W' hW'
    go_simp
    try with_reducible rfl
  try simp only [Act.put, List.setIfInBounds_toArray, List.set_cons_zero, List.set_cons_succ]
  refine rgn.Walk.ys (v := ?_) rfl rfl rfl ?_ ?_
  rotate_left 1
  · intro W' hW'
    have k0 := (OB.out.same hW').cell 0; have k1 := (OB.out.same hW').cell 1; have k2 := (OB.out.same hW').cell 2; have k3 := (OB.out.same hW').cell 3; have k4 := (OB.out.same hW').cell 4; have k5 := (OB.out.same hW').cell 5; have k6 := (OB.out.same hW').cell 6; have k7 := (OB.out.same hW').cell 7; have k8 := (OB.out.same hW').cell 8; have k9 := (OB.out.same hW').cell 9; have k10 := (OB.out.same hW').cell 10
    go_simp
    try with_reducible rfl
  try simp only [Act.put, List.setIfInBounds_toArray, List.set_cons_zero, List.set_cons_succ]
  refine rgn.Walk.ys (v := ?_) rfl rfl rfl ?_ ?_
  rotate_left 1
  · intro W' hW'
    go_simp
    try with_reducible rfl
  try simp only [Act.put, List.setIfInBounds_toArray, List.set_cons_zero, List.set_cons_succ]
  refine rgn.Walk.ys (v := ?_) rfl rfl rfl ?_ ?_
  rotate_left 1
  · intro W' hW'
    go_simp
    try with_reducible rfl
  try simp only [Act.put, List.setIfInBounds_toArray, List.set_cons_zero, List.set_cons_succ]
  refine rgn.Walk.ys (v := ?_) rfl rfl rfl ?_ ?_
  rotate_left 1
  · intro W' hW'
    go_simp
    try with_reducible rfl
  try simp only [Act.put, List.setIfInBounds_toArray, List.set_cons_zero, List.set_cons_succ]
  refine rgn.Walk.es ?_
  refine rgn.stepE rfl rfl (fun K hK => ?_)
  go_simp
  refine (rhdr _ sv pid off lf pr wh mo fr to oA on oc dA dn dc o (HO.out.only_nil QB.out) HOC.out hon40 hdn HN.out).mono ?_
  rintro x w4 ⟨v4, rfl, h4, q4⟩
  refine hK _ _ (Same.only q4 OB.out.lt) ?_
  clear hK K
  try simp only [Act.put, List.setIfInBounds_toArray, List.set_cons_zero, List.set_cons_succ]
  have sz := QB.out.size; have V4 := hid (h4.mono_base sz); clear sz; have OB := hid (OB.out.only q4 (by simp)); have QB := hid (QB.out.trans q4)
  have VN := hid (own_neQ OB.out V4.out); clear h4 q4
  refine rgn.Walk.es ?_
  refine rgn.stepE rfl rfl (fun K hK => ?_)
  refine opApp rfl (.tmp 10) (.tmp 17) _ rfl hlp.elemB w.heap.size _ _ rfl V4.out dA M dc (d.take M) rfl ((HD.out.take M HML.out).only_nil QB.out) HDC.out (by rw [HLN.out]; have := HML2.out; omega) (by rw [HLN.out]; unfold maxLen; have := HML2.out; omega) QB.out.size ?_
  intro v5 w5 hv5 hg5 hb5
  refine hK _ _ (Same.grown hg5 OB.out.lt VN.out) ?_
  clear hK K
  try simp only [Act.put, List.setIfInBounds_toArray, List.set_cons_zero, List.set_cons_succ]
  have V5 := hid hv5; have QB := hid (QB.out.own_grown V4.out hg5 (Nat.le_refl _)); clear hv5 hg5 hb5
  refine rgn.Walk.es ?_
  refine rgn.stepE rfl rfl (fun K hK => ?_)
  go_simp
  refine hK _ _ ((Same.refl w.heap.size) _) ?_
  clear hK K
  try simp only [Act.put, List.setIfInBounds_toArray, List.set_cons_zero, List.set_cons_succ]
  refine rgn.Walk.zs (NoPanic.normal ?_)
  go_wp2
  go_ret
  exact ⟨_, rfl, by rw [HEN.out]; exact V5.out, QB.out⟩
end Go.Proofs.Ytekanilgeigddaa.ip
