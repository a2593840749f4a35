/-
  Chapter 14 (segment): any options behind a right header are read by the document's rules, by a walk of its text. Conditions: none but those typed.
-/
import Derived.Test.YtkpdgfimibmoeaaSegDd
import Derived.Test.YtkpdgfimibmoeaaRga
import Derived.Test.YtkpdgfimibmoeaaRgn
import Derived.Test.YtkpdgfimibmoeaaCpy
namespace Go.Proofs.Ytkpdgfimibmoeaa.seg
set_option linter.unusedVariables false
set_option linter.unusedSimpArgs false
open Go.ChangeShapes Go.WideShapes Go.ChangeAt Go.RowKit Go.IntWalk Go.Lib
theorem grown0 {k : IntKind} {w w' : World} {A : Option Addr} {n : Nat} {l : List Int} {row : Option Nat} (h : Rd k w A n l) (hg : w.grownBy w' row) (B0 : Nat) (hlow : ∀ b off, A = some ⟨b, off, none⟩ → 0 < n → b < B0) (hr : ∀ b, row = some b → B0 ≤ b) : Rd k w' A n l := by
  rcases Nat.eq_zero_or_pos n with h0 | h0
  · subst h0
    obtain rfl : l = [] := List.eq_nil_of_length_eq_zero h.len
    exact Rd.nil _ _ _
  · exact h.grown hg (fun b off e _ e2 => by have := hlow b off e h0; have := hr _ e2; omega)
set_option maxHeartbeats 4000000 in
theorem optsOut (w : World) (fr to sq ac : Int) (fp tp fl wi ms sc : Int) (A : Option Addr) (n c : Nat) (l : List Int) (A1 : Option Addr) (n1 c1 : Nat) (l1 : List Int) (h : n > 2000 ∨ n1 > 40) : Calls Try.prog 5 #[.agg #[.int .u32 fr, .int .i64 fp, .int .u32 to, .int .i64 tp, .int .u32 sq, .int .u32 ac, .int .i64 fl, .int .i64 wi, .int .i64 ms, .int .i64 sc, .slice A n c], .slice A1 n1 c1] w (fun e w' => e = .returned (.bool true) ∧ Only [] w w') := by
  have OB : Hid (Ob (w.alloc (.cells #[.int .u32 fr, .int .i64 fp, .int .u32 to, .int .i64 tp, .int .u32 sq, .int .u32 ac, .int .i64 fl, .int .i64 wi, .int .i64 ms, .int .i64 sc, .slice A n c] 26)) w.heap.size 26 #[.int .u32 fr, .int .i64 fp, .int .u32 to, .int .i64 tp, .int .u32 sq, .int .u32 ac, .int .i64 fl, .int .i64 wi, .int .i64 ms, .int .i64 sc, .slice A n c]) := hid (Ob.new _ _ _)
  have QB : Hid (Only [] w (w.alloc (.cells #[.int .u32 fr, .int .i64 fp, .int .u32 to, .int .i64 tp, .int .u32 sq, .int .u32 ac, .int .i64 fl, .int .i64 wi, .int .i64 ms, .int .i64 sc, .slice A n c] 26))) := hid ((Only.refl [] w).alloc _)
  have k10 := OB.out.cell 10
  by_cases h1 : n > 2000
  · have h2 : (n : Int) > 2000 := by omega
    go_enter Try.func5, Try.ntmps5
    go_wp2
    go_ret
    exact ⟨rfl, QB.out⟩
  · have h2 : ¬ (n : Int) > 2000 := by omega
    have h3 : (n1 : Int) > 40 := by omega
    go_enter Try.func5, Try.ntmps5
    go_wp2
    go_ret
    exact ⟨rfl, QB.out⟩
set_option maxHeartbeats 4000000 in
theorem optsBad (w : World) (fr to sq ac : Int) (fp tp fl wi ms sc : Int) (A : Option Addr) (n c : Nat) (l : List Int) (A1 : Option Addr) (n1 c1 : Nat) (l1 : List Int) (h1 : ¬ n > 2000) (h2 : ¬ n1 > 40) (hk : chk fp tp fl wi 0 (-1) n ≠ 0) : Calls Try.prog 5 #[.agg #[.int .u32 fr, .int .i64 fp, .int .u32 to, .int .i64 tp, .int .u32 sq, .int .u32 ac, .int .i64 fl, .int .i64 wi, .int .i64 ms, .int .i64 sc, .slice A n c], .slice A1 n1 c1] w (fun e w' => e = .returned (.bool true) ∧ Only [] w w') := by
  have OB : Hid (Ob (w.alloc (.cells #[.int .u32 fr, .int .i64 fp, .int .u32 to, .int .i64 tp, .int .u32 sq, .int .u32 ac, .int .i64 fl, .int .i64 wi, .int .i64 ms, .int .i64 sc, .slice A n c] 26)) w.heap.size 26 #[.int .u32 fr, .int .i64 fp, .int .u32 to, .int .i64 tp, .int .u32 sq, .int .u32 ac, .int .i64 fl, .int .i64 wi, .int .i64 ms, .int .i64 sc, .slice A n c]) := hid (Ob.new _ _ _)
  have QB : Hid (Only [] w (w.alloc (.cells #[.int .u32 fr, .int .i64 fp, .int .u32 to, .int .i64 tp, .int .u32 sq, .int .u32 ac, .int .i64 fl, .int .i64 wi, .int .i64 ms, .int .i64 sc, .slice A n c] 26))) := hid ((Only.refl [] w).alloc _)
  have OS : Hid (Ob (w.alloc (.cells #[.int .u32 fr, .int .i64 fp, .int .u32 to, .int .i64 tp, .int .u32 sq, .int .u32 ac, .int .i64 fl, .int .i64 wi, .int .i64 0, .int .i64 (-1), .slice A n c] 26)) w.heap.size 26 #[.int .u32 fr, .int .i64 fp, .int .u32 to, .int .i64 tp, .int .u32 sq, .int .u32 ac, .int .i64 fl, .int .i64 wi, .int .i64 0, .int .i64 (-1), .slice A n c]) := hid (Ob.new _ _ _)
  have QS : Hid (Only [] w (w.alloc (.cells #[.int .u32 fr, .int .i64 fp, .int .u32 to, .int .i64 tp, .int .u32 sq, .int .u32 ac, .int .i64 fl, .int .i64 wi, .int .i64 0, .int .i64 (-1), .slice A n c] 26))) := hid ((Only.refl [] w).alloc _)
  have k8 := OB.out.cell 8; have k9 := OB.out.cell 9; have k10 := OB.out.cell 10; have f8 := OB.out.frozen 8; have f9 := OB.out.frozen 9
  have h3 : ¬ (n : Int) > 2000 := by omega
  have h4 : ¬ (n1 : Int) > 40 := by omega
  have HK := hid hk; clear hk
  go_enter Try.func5, Try.ntmps5
  go_wp2_with (first
    | (refine wp_loadOb rfl 26 (.tmp 2) rfl w.heap.size rfl #[.int .u32 fr, .int .i64 fp, .int .u32 to, .int .i64 tp, .int .u32 sq, .int .u32 ac, .int .i64 fl, .int .i64 wi, .int .i64 0, .int .i64 (-1), .slice A n c] 26 OS.out Try.underlying26 rfl (by kernel_rfl) ?_; try simp only [Act.put, List.setIfInBounds_toArray, List.set_cons_zero, List.set_cons_succ])
    | fail)
  refine (encE _ fr to sq ac fp tp fl wi 0 (-1) A n c HK.out).mono ?_
  rintro x w2 ⟨rfl, o2⟩
  have QS := hid (QS.out.trans o2); clear o2
  have hk := HK.out
  generalize chk fp tp fl wi 0 (-1) n = er at *
  have hk1 : (er == 0) = false := by simpa using hk
  have hk2 : (er != 0) = true := by simpa using hk
  go_wp2_with fail
  refine (known _).mono ?_
  rintro x w3 ⟨rfl, o3⟩
  have QS := hid (QS.out.trans o3); clear o3
  go_wp2
  go_ret
  exact ⟨rfl, QS.out⟩
def remO (v : Value) : Nat := match v with
  | .slice _ n _ => (4 - n % 4) % 4
  | _ => 0
set_option maxRecDepth 100000 in
set_option maxHeartbeats 8000000 in
theorem optsOk (w : World) (fr to sq ac : Int) (fp tp fl wi ms sc : Int) (A : Option Addr) (n c : Nat) (l : List Int) (A1 : Option Addr) (n1 c1 : Nat) (l1 : List Int) (hl : Rd .u8 w A n l) (hc0 : A = none → c = 0) (hl1 : Rd .u8 w A1 n1 l1) (hc1 : A1 = none → c1 = 0) (hnc1 : n1 ≤ c1) (hf : 0 ≤ fr ∧ fr ≤ 4294967295) (ht : 0 ≤ to ∧ to ≤ 4294967295) (h1 : ¬ n > 2000) (h2 : ¬ n1 > 40) (hk : chk fp tp fl wi 0 (-1) n = 0) : Calls Try.prog 5 #[.agg #[.int .u32 fr, .int .i64 fp, .int .u32 to, .int .i64 tp, .int .u32 sq, .int .u32 ac, .int .i64 fl, .int .i64 wi, .int .i64 ms, .int .i64 sc, .slice A n c], .slice A1 n1 c1] w (fun e w' => e = .returned (.bool true) ∧ Only [] w w') := by
  have HLen := hid hl.len
  have HL := hid hl; have HC := hid hc0; have HL1 := hid hl1; have HC1 := hid hc1; have HK := hid hk
  clear hl hc0 hl1 hc1 hk
  have OB : Hid (Ob (w.alloc (.cells #[.int .u32 fr, .int .i64 fp, .int .u32 to, .int .i64 tp, .int .u32 sq, .int .u32 ac, .int .i64 fl, .int .i64 wi, .int .i64 ms, .int .i64 sc, .slice A n c] 26)) w.heap.size 26 #[.int .u32 fr, .int .i64 fp, .int .u32 to, .int .i64 tp, .int .u32 sq, .int .u32 ac, .int .i64 fl, .int .i64 wi, .int .i64 ms, .int .i64 sc, .slice A n c]) := hid (Ob.new _ _ _)
  have QB : Hid (Only [] w (w.alloc (.cells #[.int .u32 fr, .int .i64 fp, .int .u32 to, .int .i64 tp, .int .u32 sq, .int .u32 ac, .int .i64 fl, .int .i64 wi, .int .i64 ms, .int .i64 sc, .slice A n c] 26))) := hid ((Only.refl [] w).alloc _)
  have OS : Hid (Ob (w.alloc (.cells #[.int .u32 fr, .int .i64 fp, .int .u32 to, .int .i64 tp, .int .u32 sq, .int .u32 ac, .int .i64 fl, .int .i64 wi, .int .i64 0, .int .i64 (-1), .slice A n c] 26)) w.heap.size 26 #[.int .u32 fr, .int .i64 fp, .int .u32 to, .int .i64 tp, .int .u32 sq, .int .u32 ac, .int .i64 fl, .int .i64 wi, .int .i64 0, .int .i64 (-1), .slice A n c]) := hid (Ob.new _ _ _)
  have QS : Hid (Only [] w (w.alloc (.cells #[.int .u32 fr, .int .i64 fp, .int .u32 to, .int .i64 tp, .int .u32 sq, .int .u32 ac, .int .i64 fl, .int .i64 wi, .int .i64 0, .int .i64 (-1), .slice A n c] 26))) := hid ((Only.refl [] w).alloc _)
  have k8 := OB.out.cell 8; have k9 := OB.out.cell 9; have k10 := OB.out.cell 10; have f8 := OB.out.frozen 8; have f9 := OB.out.frozen 9
  have h3 : ¬ (n : Int) > 2000 := by omega
  have h4 : ¬ (n1 : Int) > 40 := by omega
  go_enter Try.func5, Try.ntmps5
  go_wp2_with (first
    | (refine wp_loadOb rfl 26 (.tmp 2) rfl w.heap.size rfl #[.int .u32 fr, .int .i64 fp, .int .u32 to, .int .i64 tp, .int .u32 sq, .int .u32 ac, .int .i64 fl, .int .i64 wi, .int .i64 0, .int .i64 (-1), .slice A n c] 26 OS.out Try.underlying26 rfl (by kernel_rfl) ?_; try simp only [Act.put, List.setIfInBounds_toArray, List.set_cons_zero, List.set_cons_succ])
    | fail)
  refine (enc1 _ fr to sq ac fp tp fl wi 0 (-1) A n c l (HL.out.only_nil QS.out) HC.out (by omega) HK.out).mono ?_
  rintro x w2 ⟨v2, rfl, hv, o2⟩
  have OB := hid (OS.out.only o2 (by simp)); have QB := hid (QS.out.trans o2)
  have hlw : w.heap.size < (w.alloc (.cells #[.int .u32 fr, .int .i64 fp, .int .u32 to, .int .i64 tp, .int .u32 sq, .int .u32 ac, .int .i64 fl, .int .i64 wi, .int .i64 0, .int .i64 (-1), .slice A n c] 26)).heap.size := OS.out.lt
  have HEL : Hid ((encB fr to sq ac fp tp fl wi 0 (-1) l).length = 20 + n) := hid (by rw [encB_len, HLen.out]; simp [opt])
  generalize encB fr to sq ac fp tp fl wi 0 (-1) l = en at *
  obtain ⟨g, cap, ev⟩ := hv.some_form (by rw [HEL.out]; omega)
  rw [HEL.out] at ev
  subst ev
  have hvb := hv.base_le
  have hcap := hv.len
  have hgw : w.heap.size < g := by omega
  have V := hid (hv.mono_base (show w.heap.size + 1 ≤ _ by omega))
  clear hv o2 OS QS k8 k9 k10 f8 f9 hlw hvb
  have hL20 : ¬ ((20 : Int) + n) < 20 := by omega
  go_wp2
  go_loopw [1] (fun o wr => ∃ (A' : Option Addr) (n' c' : Nat) (l' : List Int), o = .slice A' n' c' ∧ n' ≤ 40 ∧ n' ≤ c' ∧ Hid (A' = none → c' = 0) ∧ Hid (Rd .u8 wr A' n' l') ∧ Hid (Only [] w2 wr)) (fun o _ => remO o)
  case atStart => exact ⟨A1, n1, c1, l1, rfl, by omega, hnc1, HC1, hid (HL1.out.only_nil QB.out), hid (Only.refl _ _)⟩
  case round =>
  obtain ⟨A', n', c', l', rfl, hn', hnc', HCO, RO, HB⟩ := hrel
  have hlo := RO.out.len
  by_cases hmod : n' % 4 = 0
  · have hmi : (n' : Int) % 4 = 0 := by omega
    have OB := hid (OB.out.only HB.out (by simp)); have QB := hid (QB.out.trans HB.out); have V := hid (V.out.only_nil HB.out)
    have HRB : Hid (∀ bb oo, A' = some ⟨bb, oo, none⟩ → 0 < n' → bb < wr.heap.size) := hid (fun bb oo e h0 => by
      obtain ⟨b2, o2, e2, hb2, _⟩ := RO.out.at_ h0
      rw [e] at e2
      injection e2 with e2; injection e2 with e2 e3; omega)
    have hgr : g < wr.heap.size := (V.out.lt g rfl).2
    have hc20 : (20 : Int) ≤ cap := by omega
    have hL20' : (20 : Int) ≤ 20 + (n : Int) := by omega
    have hLt : ((20 : Int) + (n : Int)).toNat = 20 + n := by omega
    obtain ⟨B0, hB0⟩ : ∃ B, B = wr.heap.size := ⟨_, rfl⟩
    have HPD : Hid (∀ W : World, Own .u8 5 W (w.heap.size + 1) (.slice (some ⟨g, 0, none⟩) (20 + n) cap) en → Rd .u8 W (if cap = 20 then some ⟨g, 0, none⟩ else some ⟨g, 20, none⟩) n (en.drop 20)) := hid (fun W h => by
      split
      · have h0 : n = 0 := by omega
        subst h0; rw [List.drop_of_length_le (by rw [HEL.out]; omega)]; exact Rd.nil _ _ _
      · have h9 := h.rd.drop 20 (by omega); rw [show 20 + n - 20 = n from by omega] at h9; simpa using h9)
    go_wp2_with fail
    refine wp_region_noPanic ?_
    refine rgn.regionT (R := AnyW) (by kernel_rfl) AnyW.refl (fun _ _ _ _ _ => AnyW.any _ _) (fun _ _ _ _ _ h => h) (.y 1 (.y 2 (.y 4 (.y 6 (.y 7 (.e 0 (.e 3 (.e 5 (.e 8 (.e 9 .z)))))))))) (by kernel_rfl) (fun W hWd => ?_)
    have HWd := hid hWd; clear hWd
    have OB := hid (OB.out.eq_drew HWd.out); have QB := hid (QB.out.eq_drew HWd.out); have V : Hid (Own .u8 5 W _ _ _) := hid (by have h9 := HWd.out; subst h9; exact V.out.drew); have RO : Hid (Rd .u8 W _ _ _) := hid (by have h9 := HWd.out; subst h9; exact RO.out.drew)
    have QZ : Hid (Only [] wr W) := hid (Only.eq_drew (Only.refl [] wr) HWd.out)
    clear HWd
    refine rgn.Walk.ys (v := ?_) rfl rfl rfl ?_ ?_
    rotate_left 1
    · intro W' hW'
      go_simp
      try with_reducible rfl
    try simp only [Act.put, List.setIfInBounds_toArray, List.set_cons_zero, List.set_cons_succ]
    refine rgn.Walk.ys (v := ?_) rfl rfl rfl ?_ ?_
    rotate_left 1
    · intro W' hW'
      go_simp
      try with_reducible rfl
    try simp only [Act.put, List.setIfInBounds_toArray, List.set_cons_zero, List.set_cons_succ]
    refine rgn.Walk.ys (v := ?_) rfl rfl rfl ?_ ?_
    rotate_left 1
    · intro W' hW'
      go_simp
      try with_reducible rfl
    try simp only [Act.put, List.setIfInBounds_toArray, List.set_cons_zero, List.set_cons_succ]
    refine rgn.Walk.ys (v := ?_) rfl rfl rfl ?_ ?_
    rotate_left 1
    · intro W' hW'
      go_simp
      try with_reducible rfl
    try simp only [Act.put, List.setIfInBounds_toArray, List.set_cons_zero, List.set_cons_succ]
    refine rgn.Walk.ys (v := ?_) rfl rfl rfl ?_ ?_
    rotate_left 1
    · intro W' hW'
      go_simp
      try with_reducible rfl
    try simp only [Act.put, List.setIfInBounds_toArray, List.set_cons_zero, List.set_cons_succ]
    refine rgn.Walk.es ?_
    refine rgn.stepE rfl rfl (fun K hK => ?_)
    go_simp
    refine hK _ _ (AnyW.any _ _) ?_
    clear hK K
    try simp only [Act.put, List.setIfInBounds_toArray, List.set_cons_zero, List.set_cons_succ]
    have V0 : Hid (Own .u8 5 _ B0 _ []) := hid (Own.lit .u8 5 W B0 [] #[] 0 rfl rfl (by have := QZ.out.size; omega) (by simp) (by simp))
    have oa := (Only.refl [] W).alloc (.cells #[] 5)
    have OB := hid (OB.out.only oa (by simp)); have QB := hid (QB.out.trans oa); have V := hid (V.out.only_nil oa); have RO := hid (RO.out.only_nil oa); have QZ := hid (QZ.out.trans oa); clear oa
    refine rgn.Walk.es ?_
    refine rgn.stepE rfl rfl (fun K hK => ?_)
    refine opApp rfl (.tmp 43) (.tmp 45) _ rfl hlp.elemB B0 _ ([]) rfl V0.out (some ⟨g, 0, none⟩) 20 cap (en.take 20) (by first | rfl | go_simp) (V.out.rd.take 20 (by omega)) (by intro hh; cases hh) (by first | (simp; done) | (simp; omega)) (by unfold maxLen; first | (simp; done) | (simp; omega)) (by have := QZ.out.size; omega) ?_
    intro v71 w71 hv hg hb
    refine hK _ _ (AnyW.any _ _) ?_
    clear hK K
    try simp only [Act.put, List.setIfInBounds_toArray, List.set_cons_zero, List.set_cons_succ]
    have QZ := hid (QZ.out.of_grown hg (fun k hk => .inr (by have := (V0.out.lt k hk).1; omega))); have QB := hid (QB.out.of_grown hg (fun k hk => .inr (by have := (V0.out.lt k hk).1; omega))); have OB := hid (OB.out.grown hg (fun e => by have := (V0.out.lt _ e).1; omega)); have V := hid (V.out.grown hg (.inr (fun e => by have h8 := (V0.out.lt g e.symm).1; omega))); have RO := hid (grown0 RO.out hg B0 (fun bb oo e h0 => by have h9 := HRB.out bb oo e h0; omega) (fun bb e2 => (V0.out.lt _ e2).1)); have V1 : Hid (Own .u8 5 _ B0 _ (en.take 20)) := hid hv
    clear hv hg hb
    refine rgn.Walk.es ?_
    refine rgn.stepE rfl rfl (fun K hK => ?_)
    refine opApp rfl (.tmp 46) (.tmp 47) _ rfl hlp.elemB B0 _ (en.take 20) rfl V1.out A' n' c' (l') (by first | rfl | go_simp) (RO.out) (HCO.out) (by first | (simp; done) | (simp; omega)) (by unfold maxLen; first | (simp; done) | (simp; omega)) (by have := QZ.out.size; omega) ?_
    intro v72 w72 hv hg hb
    refine hK _ _ (AnyW.any _ _) ?_
    clear hK K
    try simp only [Act.put, List.setIfInBounds_toArray, List.set_cons_zero, List.set_cons_succ]
    have QZ := hid (QZ.out.of_grown hg (fun k hk => .inr (by have := (V1.out.lt k hk).1; omega))); have QB := hid (QB.out.of_grown hg (fun k hk => .inr (by have := (V1.out.lt k hk).1; omega))); have OB := hid (OB.out.grown hg (fun e => by have := (V1.out.lt _ e).1; omega)); have V := hid (V.out.grown hg (.inr (fun e => by have h8 := (V1.out.lt g e.symm).1; omega))); have RO := hid (grown0 RO.out hg B0 (fun bb oo e h0 => by have h9 := HRB.out bb oo e h0; omega) (fun bb e2 => (V1.out.lt _ e2).1)); have V2 : Hid (Own .u8 5 _ B0 _ (en.take 20 ++ l')) := hid hv
    clear hv hg hb
    refine rgn.Walk.es ?_
    refine rgn.stepE rfl rfl (fun K hK => ?_)
    refine opApp rfl (.tmp 48) (.tmp 50) _ rfl hlp.elemB B0 _ (en.take 20 ++ l') rfl V2.out (if cap = 20 then some ⟨g, 0, none⟩ else some ⟨g, 20, none⟩) n (cap - 20) (en.drop 20) (by first | rfl | go_simp) (HPD.out _ V.out) (by intro hh; split at hh <;> cases hh) (by first | (simp; done) | (simp; omega)) (by unfold maxLen; first | (simp; done) | (simp; omega)) (by have := QZ.out.size; omega) ?_
    intro v73 w73 hv hg hb
    refine hK _ _ (AnyW.any _ _) ?_
    clear hK K
    try simp only [Act.put, List.setIfInBounds_toArray, List.set_cons_zero, List.set_cons_succ]
    have QZ := hid (QZ.out.of_grown hg (fun k hk => .inr (by have := (V2.out.lt k hk).1; omega))); have QB := hid (QB.out.of_grown hg (fun k hk => .inr (by have := (V2.out.lt k hk).1; omega))); have OB := hid (OB.out.grown hg (fun e => by have := (V2.out.lt _ e).1; omega)); have V := hid (V.out.grown hg (.inr (fun e => by have h8 := (V2.out.lt g e.symm).1; omega))); have RO := hid (grown0 RO.out hg B0 (fun bb oo e h0 => by have h9 := HRB.out bb oo e h0; omega) (fun bb e2 => (V2.out.lt _ e2).1)); have V3 : Hid (Own .u8 5 _ B0 _ (en.take 20 ++ l' ++ en.drop 20)) := hid hv
    clear hv hg hb
    refine rgn.Walk.es ?_
    refine rgn.stepE rfl rfl (fun K hK => ?_)
    go_simp
    refine hK _ _ (AnyW.refl _) ?_
    clear hK K
    try simp only [Act.put, List.setIfInBounds_toArray, List.set_cons_zero, List.set_cons_succ]
    refine rgn.Walk.zs (NoPanic.normal ?_)
    generalize (if cap = 20 then (some ⟨g, 0, none⟩ : Option Addr) else some ⟨g, 20, none⟩) = AD at *
    have hlx : (en.take 20 ++ l' ++ en.drop 20).length = 20 + n' + n := by rw [List.length_append, List.length_append, List.length_take, List.length_drop, HEL.out, hlo]; omega
    have HXW : Hid (∀ z ∈ (en.take 20 ++ l' ++ en.drop 20), (Lit.int .u8 z).wf = true) := hid V3.out.2
    generalize en.take 20 ++ l' ++ en.drop 20 = lx0 at *
    obtain ⟨gx, capx, ex⟩ := V3.out.some_form (by rw [hlx]; omega)
    rw [hlx] at ex
    subst ex
    have hgx := V3.out.base_le
    have hcx := V3.out.len
    have hq := QZ.out.size
    have hne : w.heap.size ≠ gx := by have := OB.out.lt; omega
    have c12 := V3.out.cellD 12 (by omega); have c16 := V3.out.cellD 16 (by omega); have c17 := V3.out.cellD 17 (by omega)
    have f12 := V3.out.frozen 12; have f16 := V3.out.frozen 16; have f17 := V3.out.frozen 17
    have hi12 : (12 : Int) < 20 + n' + n := by omega
    have hi16 : (16 : Int) < 20 + n' + n := by omega
    have hi17 : (17 : Int) < 20 + n' + n := by omega
    generalize lx0.getD 12 0 = y12 at *
    generalize lx0.getD 16 0 = y16 at *
    generalize lx0.getD 17 0 = y17 at *
    clear V0 V1 V2 V
    have hne2 : gx ≠ w.heap.size := fun e => hne e.symm
    have k0 := OB.out.cell 0; have k1 := OB.out.cell 1; have k2 := OB.out.cell 2; have k3 := OB.out.cell 3; have k4 := OB.out.cell 4; have k5 := OB.out.cell 5; have k6 := OB.out.cell 6; have k7 := OB.out.cell 7; have k8 := OB.out.cell 8; have k9 := OB.out.cell 9; have k10 := OB.out.cell 10
    go_wp2_with fail
    clear k0 k1 k2 k3 k4 k5 k6 k7 k8 k9 k10
    refine (fix1 _ fr to sq ac fp tp fl wi 0 (-1) A n c B0 gx (20 + n' + n) capx _ hf ht (((V3.out.set 12 _ ?_).set 16 0 ?_).set 17 0 ?_) (by omega) (by omega)).mono ?_
    · apply hlp.u8wf; omega
    · decide
    · decide
    rintro x w80 ⟨rfl, ⟨lx, hx⟩, o80⟩
    have QX : Hid (Only [gx] w73 w80) := hid (Only.trans (Only.setCell (Only.setCell (Only.setCell (Only.refl [gx] _) (.inl (by simp)) _) (.inl (by simp)) _) (.inl (by simp)) _) o80)
    have OB := hid (OB.out.only QX.out (by simpa using hne)); have QB := hid (QB.out.fresh QX.out (fun i hi => .inr (by simp at hi; subst hi; have := QB.out.size; have := OB.out.lt; omega)))
    have V := hid hx
    clear V3 o80 hx c12 c16 c17 f12 f16 f17 QX
    have hxl := V.out.len
    have hcapx : capx ≤ 9223372036854775807 := by have h := hxl.2.2; simp only [maxLen] at h; omega
    have k0 := OB.out.cell 0; have k2 := OB.out.cell 2
    go_wp2_with fail
    refine (decAny w80 fr to (some ⟨gx, 0, none⟩) (20 + n' + n) capx lx V.out.rd (by simp) (by omega) hcapx (by omega)).mono ?_
    rintro x w81 ⟨v2, rfl, hv2, o81⟩
    have V := hid (V.out.only_nil o81); have OB := hid (OB.out.only o81 (by simp)); have QB := hid (QB.out.trans o81)
    obtain ⟨f0, f1, f2, f3, f4, f5, f6, f7, f8, f9, hgd⟩ := dGs_form fr to lx
    rw [hgd]
    have HG2 := hid hgd; clear hgd k0 k2
    obtain ⟨A2, cap2, ev2, hc2, hm2, r2, hb2⟩ := hv2.slice
    have HDL : Hid ((dDs fr to lx).length ≤ 70000) := hid (by
      unfold dDs
      split
      · rw [List.length_drop]; omega
      · simp)
    have R2 := hid r2
    subst ev2
    clear hv2 o81 r2 hb2
    have k0 := OB.out.cell 0; have k2 := OB.out.cell 2; have hl81 := OB.out.lt
    have HOA : Hid (Ob (w81.alloc (.cells #[.int .u32 f0, .int .i64 f1, .int .u32 f2, .int .i64 f3, .int .u32 f4, .int .u32 f5, .int .i64 f6, .int .i64 f7, .int .i64 f8, .int .i64 f9, .slice A2 (dDs fr to lx).length cap2] 26)) w81.heap.size 26 #[.int .u32 f0, .int .i64 f1, .int .u32 f2, .int .i64 f3, .int .u32 f4, .int .u32 f5, .int .i64 f6, .int .i64 f7, .int .i64 f8, .int .i64 f9, .slice A2 (dDs fr to lx).length cap2]) := hid (Ob.new _ _ _)
    have oa : Only [] w81 (w81.alloc (.cells #[.int .u32 f0, .int .i64 f1, .int .u32 f2, .int .i64 f3, .int .u32 f4, .int .u32 f5, .int .i64 f6, .int .i64 f7, .int .i64 f8, .int .i64 f9, .slice A2 (dDs fr to lx).length cap2] 26)) := (Only.refl _ _).alloc _
    have V := hid (V.out.only_nil oa); have OB := hid (OB.out.only oa (by simp)); have QB := hid (QB.out.trans oa); have R2 := hid (R2.out.only_nil oa)
    generalize hW82 : w81.alloc (.cells #[.int .u32 f0, .int .i64 f1, .int .u32 f2, .int .i64 f3, .int .u32 f4, .int .u32 f5, .int .i64 f6, .int .i64 f7, .int .i64 f8, .int .i64 f9, .slice A2 (dDs fr to lx).length cap2] 26) = W82 at *
    have HW82 := hid hW82; clear hW82 oa
    generalize hDE : dEr fr to lx = er
    have HDE := hid hDE; clear hDE
    go_wp2_with fail
    rw [HW82.out]
    refine (rdecAny W82 fr to (some ⟨gx, 0, none⟩) (20 + n' + n) capx lx V.out.rd (by simp) (by omega) hcapx (by omega)).mono ?_
    rintro x w83 ⟨v4, rfl, hv4, o83⟩
    rw [HG2.out, HDE.out]
    clear k0 k2
    have HOA := hid (HOA.out.only o83 (by simp)); have QB := hid (QB.out.trans o83); have R2 := hid (R2.out.only_nil o83)
    obtain ⟨A4, cap4, ev4, hc4, hm4, r4, hb4⟩ := hv4.slice
    have R4 := hid r4
    subst ev4
    clear hv4 o83 r4 hb4
    have HOB : Hid (Ob (w83.alloc (.cells #[.int .u32 f0, .int .i64 f1, .int .u32 f2, .int .i64 f3, .int .u32 f4, .int .u32 f5, .int .i64 f6, .int .i64 f7, .int .i64 f8, .int .i64 f9, .slice A4 (dDs fr to lx).length cap4] 26)) w83.heap.size 26 #[.int .u32 f0, .int .i64 f1, .int .u32 f2, .int .i64 f3, .int .u32 f4, .int .u32 f5, .int .i64 f6, .int .i64 f7, .int .i64 f8, .int .i64 f9, .slice A4 (dDs fr to lx).length cap4]) := hid (Ob.new _ _ _)
    have oa : Only [] w83 (w83.alloc (.cells #[.int .u32 f0, .int .i64 f1, .int .u32 f2, .int .i64 f3, .int .u32 f4, .int .u32 f5, .int .i64 f6, .int .i64 f7, .int .i64 f8, .int .i64 f9, .slice A4 (dDs fr to lx).length cap4] 26)) := (Only.refl _ _).alloc _
    have HOA := hid (HOA.out.only oa (by simp)); have QB := hid (QB.out.trans oa); have R2 := hid (R2.out.only_nil oa); have R4 := hid (R4.out.only_nil oa)
    clear oa
    go_wp2_with (first
      | (refine wp_loadOb rfl 26 (.tmp 8) rfl w81.heap.size rfl _ 26 HOA.out Try.underlying26 rfl (by kernel_rfl) ?_; try simp only [Act.put, List.setIfInBounds_toArray, List.set_cons_zero, List.set_cons_succ])
      | (refine wp_loadOb rfl 26 (.tmp 10) rfl w83.heap.size rfl _ 26 HOB.out Try.underlying26 rfl (by kernel_rfl) ?_; try simp only [Act.put, List.setIfInBounds_toArray, List.set_cons_zero, List.set_cons_succ])
      | fail)
    refine (segs1 _ f0 f1 f2 f3 f4 f5 f6 f7 f8 f9 A2 A4 _ _ cap2 cap4 _ R2.out R4.out (by have := HDL.out; omega) (by have := HDL.out; omega)).mono ?_
    rintro x w85 ⟨rfl, o85⟩
    have QB := hid (QB.out.trans o85)
    clear o85 R2 R4 HOA HOB
    go_wp2_with fail
    refine (known _).mono ?_
    rintro x w86 ⟨rfl, o86⟩
    have QB := hid (QB.out.trans o86); clear o86
    go_wp2
    go_ret
    exact ⟨rfl, QB.out⟩
  · have hmi : ((n' : Int) % 4 == 0) = false := by simp; omega
    have hmi2 : ((n' : Int) % 4 != 0) = true := by simp; omega
    have VL : Hid (Own .u8 5 (wr.alloc (.cells #[] 5)) wr.heap.size (.slice (some ⟨wr.heap.size, 0, none⟩) 0 0) []) := hid (Own.lit .u8 5 wr wr.heap.size [] #[] 0 rfl rfl (Nat.le_refl _) (by simp) (by simp))
    have B : Hid (Below wr.heap.size wr (wr.alloc (.cells #[] 5))) := hid ((Below.refl _ _).alloc (Nat.le_refl _) _)
    go_wp2_with (at_builtin; refine wpList_app _ rfl (.tmp 38) (.tmp 39) _ rfl hlp.elemB wr.heap.size _ [] rfl ?ca A' n' c' l' rfl ?cb ?cc ?cd ?ce ?cf ?_)
    case ca => exact VL.out
    case cb => exact RO.out.below B.out (Nat.le_refl _)
    case cc => exact HCO.out
    case cd => first | omega | (simp; omega)
    case ce => unfold maxLen; first | omega | (simp; omega)
    case cf => simp
    intro v20 W20 hv hg hb
    have V20 : Hid (Own .u8 5 W20 wr.heap.size v20 l') := hid hv
    have B := hid (B.out.grown hg (by have := B.out.size; omega) (fun k hk => (VL.out.lt k hk).1))
    clear hv hg hb VL
    have hs2 := B.out.size
    have VL : Hid (Own .u8 5 (W20.alloc (.cells #[.int .u8 0] 5)) wr.heap.size (.slice (some ⟨W20.heap.size, 0, none⟩) 1 1) [0]) := hid (Own.lit .u8 5 W20 wr.heap.size [0] #[.int .u8 0] 1 rfl rfl hs2 (by simp [maxLen]) (by intro z hz; simp at hz; subst hz; decide))
    have B := hid (B.out.alloc hs2 (.cells #[.int .u8 0] 5)); have V20 := hid (V20.out.alloc (.cells #[.int .u8 0] 5))
    go_wp2_with (at_builtin; refine wpList_app _ rfl (.tmp 40) (.tmp 41) _ rfl hlp.elemB wr.heap.size v20 l' rfl ?da (some ⟨W20.heap.size, 0, none⟩) 1 1 [0] rfl ?db ?dc ?dd ?de ?df ?_)
    case da => exact V20.out
    case db => exact VL.out.rd
    case dc => simp
    case dd => omega
    case de => unfold maxLen; omega
    case df => simp; omega
    intro v21 W21 hv hg hb
    have V21 : Hid (Own .u8 5 W21 wr.heap.size v21 (l' ++ [0])) := hid hv
    have B := hid (B.out.grown hg (by have := B.out.size; omega) (fun k hk => (V20.out.lt k hk).1))
    clear hv hg hb VL V20
    have hl21 : (l' ++ [0] : List Int).length = n' + 1 := by simp [hlo]
    obtain ⟨g2, cap2, ev⟩ := V21.out.some_form (by rw [hl21]; omega)
    rw [hl21] at ev
    subst ev
    have hc21 := V21.out.len
    have HQ : Hid (Only [] w2 W21) := hid (HB.out.trans (Only.of_below B.out))
    have HR : Hid (Rd .u8 W21 (some ⟨g2, 0, none⟩) (n' + 1) (l' ++ [0])) := hid V21.out.rd
    go_wp2
    go_roundw
    case rel => exact ⟨some ⟨g2, 0, none⟩, n' + 1, cap2, l' ++ [0], rfl, by omega, hc21.2.1, hid (by simp), HR, HQ⟩
    case measure => simp [remO]; omega
theorem optionsLaw (w : World) (fr to sq ac : Int) (fp tp fl wi ms sc : Int) (A : Option Addr) (n c : Nat) (l : List Int) (A1 : Option Addr) (n1 c1 : Nat) (l1 : List Int) (hl : Rd .u8 w A n l) (hc0 : A = none → c = 0) (hl1 : Rd .u8 w A1 n1 l1) (hc1 : A1 = none → c1 = 0) (hnc1 : n1 ≤ c1) (hf : 0 ≤ fr ∧ fr ≤ 4294967295) (ht : 0 ≤ to ∧ to ≤ 4294967295) : Calls Try.prog 5 #[.agg #[.int .u32 fr, .int .i64 fp, .int .u32 to, .int .i64 tp, .int .u32 sq, .int .u32 ac, .int .i64 fl, .int .i64 wi, .int .i64 ms, .int .i64 sc, .slice A n c], .slice A1 n1 c1] w (fun e w' => e = .returned (.bool true) ∧ Only [] w w') := by
  by_cases h : n > 2000 ∨ n1 > 40
  · exact optsOut w fr to sq ac fp tp fl wi ms sc A n c l A1 n1 c1 l1 h
  · by_cases hk : chk fp tp fl wi 0 (-1) n = 0
    · exact optsOk w fr to sq ac fp tp fl wi ms sc A n c l A1 n1 c1 l1 hl hc0 hl1 hc1 hnc1 hf ht (by omega) (by omega) hk
    · exact optsBad w fr to sq ac fp tp fl wi ms sc A n c l A1 n1 c1 l1 (by omega) (by omega) hk
end Go.Proofs.Ytkpdgfimibmoeaa.seg
