/-
  Chapter 11 (udp): what a datagram is written as is read as it, the law by a walk of its text. Conditions: none but those typed.
-/
import Derived.Test.YtnhakcgkhhficaaUdpN
import Derived.Test.YtnhakcgkhhficaaUdpH
import Derived.Test.YtnhakcgkhhficaaUdpD
namespace Go.Proofs.Ytnhakcgkhhficaa.udp
set_option linter.unusedVariables false
set_option linter.unusedSimpArgs false
open Go.ChangeShapes Go.WideShapes Go.ChangeAt Go.RowKit Go.IntWalk Go.Lib
theorem opAppOld {P : Program} {k : IntKind} {e : TypeId} {w : World} {o : Oper} {a : Act} {K : Act → World → Prop} {Q : Exit → Act → World → Prop} (hgd : o.guard = none) (s x : Operand) (t : TypeId)
    (ho : o.op = .call { callee := .builtin .append, args := #[s, x], argTypes := #[t, t] }) {bytes : Nat} (E : Elem P t e k bytes) (base g n cap : Nat) (xs : List Int) (hs : a.eval s = .slice (some ⟨g, 0, none⟩) n cap) (hown : Own k e w base (.slice (some ⟨g, 0, none⟩) n cap) xs)
    (A : Option Addr) (m c : Nat) (l : List Int) (hx : a.eval x = .slice A m c) (hr : Rd k w A m l) (hc0 : A = none → c = 0) (hb : (n + m) * bytes ≤ 140737488355328) (h63 : n + m ≤ maxLen) (hbase : base ≤ w.heap.size)
    (h : ∀ v' w', Own k e w' base v' (xs ++ l) → w.grownBy w' (some g) → Rd k w' (some ⟨g, 0, none⟩) n xs → K (a.put o.dst v') w') : Oper.wp P o a w K Q := by
  obtain ⟨v', w', hr, h2, h3, h5⟩ := app_old (P := P) w E o.type base g n cap xs hown A m c l hr hc0 hb h63 hbase
  unfold Oper.wp execOp
  simp only [ho, resolve, invoke, builtin, Sem.run_bind, Sem.run_pure, Result.andThen_ok, List.map_toArray, List.map_cons, List.map_nil, hs, hx, hr]
  exact h v' w' h2 h3 h5
theorem wp_loadObG {P : Program} {ops : Array Oper} {rest : List Oper} {op : Oper} {a : Act} {w : World} {Q : Exit → Act → World → Prop} {d : TypeDesc} (hw : Region.wanted op (yielded ops a.tmps) = true) (ty : TypeId) (x : Operand) (ho : op.op = .load ty x)
    (g : Nat) (hx : a.eval x = .pointer (some ⟨g, 0, none⟩)) (cs : Array Value) (t : TypeId) (hb : Ob w g t cs)
    (hu : P.underlying ty = some d) (hd : d.isRow = true) (hi : (P.info? ty).map (·.size) = some cs.size)
    (h : wpList P ops Q rest (a.put op.dst (.agg cs)) w) : wpList P ops Q (op :: rest) a w := by
  refine wpList_step fun K hK => ?_
  rw [if_pos hw]
  exact wp_load_mid ty x ho g 0 hx cs.toList d hb.range hu hd (by simpa using hi) (hK _ _ (by simpa using h))
set_option maxRecDepth 100000 in
set_option maxHeartbeats 2000000 in
theorem backOk (w : World) (fr fp to tp y : Int) (A : Option Addr) (n c : Nat) (l : List Int) (A1 : Option Addr) (n1 c1 : Nat) (q : List Int) (LL : Nat) (hl : Rd .u8 w A n l) (hc0 : A = none → c = 0) (hq : Rd .u8 w A1 n1 q) (hc1 : A1 = none → c1 = 0) (hn : n + n1 ≤ 70000) (hn2 : n ≤ 65507) (hg : Good fp tp) (hLL : LL = 8 + n) (h1 : 0 ≤ fr ∧ fr ≤ 4294967295) (h2 : 0 ≤ to ∧ to ≤ 4294967295) (hy : 0 ≤ y ∧ y ≤ 255) :
    Calls Try.prog 6 #[.agg #[.int .u32 fr, .int .i64 fp, .int .u32 to, .int .i64 tp, .slice A n c], .slice A1 n1 c1, .int .u8 y] w (fun e w' => e = .returned (.bool true) ∧ Only [] w w') := by
  have OB : Hid (Ob (w.alloc (.cells #[.int .u32 fr, .int .i64 fp, .int .u32 to, .int .i64 tp, .slice A n c] 32)) w.heap.size 32 #[.int .u32 fr, .int .i64 fp, .int .u32 to, .int .i64 tp, .slice A n c]) := hid (Ob.new _ _ _)
  have HB : Hid (Only [] w (w.alloc (.cells #[.int .u32 fr, .int .i64 fp, .int .u32 to, .int .i64 tp, .slice A n c] 32))) := hid ((Only.refl [] w).alloc _)
  have HLen := hid hl.len
  have HWF : Hid (∀ z ∈ l, 0 ≤ z ∧ z ≤ 255) := hid (fun z hz => u8Bd (hl.wf z hz))
  have HEL : Hid ((encU fr fp to tp l).length = LL) := hid (by unfold encU; rw [body_len, hl.len, hLL])
  obtain ⟨m1, m2, m3, m4⟩ := moreE fr fp to tp l q (by rw [hl.len]; exact hn2) hg HWF.out h1 h2
  have HDo := hid m1; have HDD := hid m2
  have HGo : Hid (∀ v, dG fr to (encU fr fp to tp l ++ q) v = .agg #[.int .u32 fr, .int .i64 fp, .int .u32 to, .int .i64 tp, v]) := hid (fun v => by unfold dG; rw [if_pos m1, m3, m4])
  clear m1 m2 m3 m4
  have HXE : Hid (∀ f, 0 ≤ f ∧ f ≤ 4294967295 → f / 256 = fr / 256 → f ≠ fr → dE f to (encU fr fp to tp l) = 4) := hid (fun f h3 hd hne => xorE fr fp to tp f l (by rw [hl.len]; exact hn2) hg HWF.out h1 h2 h3 hd hne)
  have HQL : Hid ((encU fr fp to tp l ++ q).length = LL + n1) := hid (by rw [List.length_append, HEL.out, hq.len])
  have HL := hid hl; clear hl
  have HC := hid hc0; clear hc0
  have HQ := hid hq; have HC1 := hid hc1; clear hq hc1
  have hn' : ¬ ((n : Int) + n1 > 70000) := by omega
  have hLb : 8 ≤ LL ∧ LL + n1 ≤ 70008 := by omega
  clear hLL
  go_enter Try.func6, Try.ntmps6
  go_wp2_with (first
    | (refine wp_loadOb rfl 32 (.tmp 3) rfl w.heap.size rfl _ 32 OB.out Try.underlying32 rfl (by kernel_rfl) ?_; try simp only [Act.put, List.setIfInBounds_toArray, List.set_cons_zero, List.set_cons_succ])
    | fail)
  refine (enc1 _ fr fp to tp A n c l (HL.out.only_nil HB.out) HC.out hg (by omega)).mono ?_
  rintro x w2 ⟨v2, rfl, hv2, o2⟩
  generalize encU fr fp to tp l = en at *
  obtain ⟨g, cap, e2⟩ := hv2.some_form (by rw [HEL.out]; omega)
  rw [HEL.out] at e2
  subst e2
  have HEN : Hid (Own .u8 5 w2 (w.heap.size + 1) (.slice (some ⟨g, 0, none⟩) LL cap) en) := hid (hv2.mono_base (by simp))
  have hlow := HEN.out.base_le.1
  have hcl := HEN.out.len
  have OB := hid (OB.out.only o2 (by simp)); have HB := hid (HB.out.trans o2); clear hv2 o2
  by_cases hy0 : y = 0
  · subst hy0
    obtain ⟨b9, hx9, hb0, hb1, hb2, hb3⟩ := xor32 fr 1 h1 (by omega)
    have HD4 := hid (HXE.out b9 ⟨hb0, hb1⟩ hb2 hb3)
    have HG4 : Hid (∀ v, dG b9 to en v = .agg #[.int .u32 0, .int .i64 0, .int .u32 0, .int .i64 0, v]) := hid (fun v => by unfold dG; rw [if_neg (by rw [HD4.out]; decide)])
    have HD5 : Hid ((dD b9 to en).length = 0) := hid (by unfold dD; rw [if_neg (by rw [HD4.out]; decide)]; rfl)
    clear hb2 hb3 HXE
    go_wp2_with fail
    refine wp_region_noPanic ?_
    refine rgn.regionT (R := Same w.heap.size) (by kernel_rfl) (Same.refl w.heap.size) (Same.trans (g := w.heap.size)) (fun _ _ _ _ _ h => h) (.y 0 (.y 1 (.y 2 (.y 3 (.y 4 (.y 5 (.b 6 11 (.b 7 11 (.y 8 (.y 9 (.y 10 (.e 11 (.e 12 (.e 13 .z)))))) (.e 7 (.y 8 (.y 9 (.y 10 (.e 12 (.e 13 .z))))))) (.e 6 (.e 7 (.y 8 (.y 9 (.y 10 (.e 12 (.e 13 .z)))))))))))))) (by kernel_rfl) (fun W hWd => ?_)
    have HWd := hid hWd; clear hWd
    have OB := hid (OB.out.eq_drew HWd.out); have HB := hid (HB.out.eq_drew HWd.out)
    have HEN : Hid (Own .u8 5 W (w.heap.size + 1) (.slice (some ⟨g, 0, none⟩) LL cap) en) := hid (by rw [HWd.out]; exact HEN.out)
    refine rgn.Walk.ys (v := ?_) rfl rfl rfl ?_ ?_
    rotate_left 1
    · intro W' hW'
      go_simp
      try with_reducible rfl
    try simp only [Act.put, List.setIfInBounds_toArray, List.set_cons_zero, List.set_cons_succ]
    refine rgn.Walk.ys (v := ?_) rfl rfl rfl ?_ ?_
    rotate_left 1
    · intro W' hW'
      have q0 := (show W'.cell? ⟨w.heap.size, 0, none⟩ = some (.int .u32 fr) from (OB.out.same hW').cell 0)
      go_simp
      try with_reducible rfl
    try simp only [Act.put, List.setIfInBounds_toArray, List.set_cons_zero, List.set_cons_succ]
    refine rgn.Walk.ys (v := ?_) rfl rfl rfl ?_ ?_
    rotate_left 1
    · intro W' hW'
      go_simp
      try with_reducible rfl
    try simp only [Act.put, List.setIfInBounds_toArray, List.set_cons_zero, List.set_cons_succ]
    refine rgn.Walk.ys (v := ?_) rfl rfl rfl ?_ ?_
    rotate_left 1
    · intro W' hW'
      have q0 := (show W'.cell? ⟨w.heap.size, 2, none⟩ = some (.int .u32 to) from (OB.out.same hW').cell 2)
      go_simp
      try with_reducible rfl
    try simp only [Act.put, List.setIfInBounds_toArray, List.set_cons_zero, List.set_cons_succ]
    refine rgn.Walk.ys (v := ?_) rfl rfl rfl ?_ ?_
    rotate_left 1
    · intro W' hW'
      go_simp
      try with_reducible rfl
    try simp only [Act.put, List.setIfInBounds_toArray, List.set_cons_zero, List.set_cons_succ]
    refine rgn.Walk.ys (v := ?_) rfl rfl rfl ?_ ?_
    rotate_left 1
    · intro W' hW'
      go_simp
      try with_reducible rfl
    try simp only [Act.put, List.setIfInBounds_toArray, List.set_cons_zero, List.set_cons_succ]
    refine rgn.Walk.bs ?_ ?_
    · refine rgn.stepE rfl rfl (fun K hK => ?_)
      refine opAppOld rfl (.tmp 38) (.tmp 39) _ rfl hlp.elemB (w.heap.size + 1) g LL cap en rfl HEN.out A1 n1 c1 q rfl (HQ.out.only_nil HB.out) HC1.out (by omega) (by unfold maxLen; omega) OB.out.lt ?_
      intro v6 w6 hv hg hrd
      refine hK _ _ (Same.grown hg OB.out.lt (fun e => by injection e with e; omega)) ?_
      clear hK K
      try simp only [Act.put, List.setIfInBounds_toArray, List.set_cons_zero, List.set_cons_succ]
      have OB := hid (OB.out.grown hg (fun e => by injection e with e; omega)); have HB := hid (HB.out.of_grown hg (fun i hi => .inr (by injection hi with hi; omega))); have RE := hid hrd
      obtain ⟨A6, c6, ev6, hc6, hm6, r6', hb6⟩ := hv.slice
      have N6 := hid (own_cap2 hv ev6)
      have R6 := hid r6'
      rw [HQL.out] at ev6 hc6
      subst ev6
      clear hv hg hrd r6' hb6
      refine rgn.Walk.bs ?_ ?_
      · refine rgn.stepE rfl rfl (fun K hK => ?_)
        go_simp
        refine (dec1 _ fr to A6 (LL + n1) c6 (en ++ q) (by have h9 := R6.out; rwa [HQL.out] at h9) N6.out hc6 (by omega)).mono ?_
        rintro x w7 ⟨v7, rfl, hv7, o7⟩
        rw [HGo.out, HDo.out]
        obtain ⟨A7, c7, ev7, _, _, r7, hb7⟩ := hv7.slice
        rw [HDD.out, HLen.out] at ev7
        have R7 : Hid (Rd .u8 w7 A7 n l) := hid (by have h9 := r7; rwa [HDD.out, HLen.out] at h9)
        have h7x : ∀ b off, A7 = some ⟨b, off, none⟩ → b < w7.heap.size := fun b off e => (hv7.lt b (hb7 b off e)).2
        clear hb7
        subst ev7
        refine hK _ _ (o7.block w.heap.size OB.out.lt (by simp)) ?_
        clear hK K
        try simp only [Act.put, List.setIfInBounds_toArray, List.set_cons_zero, List.set_cons_succ]
        have OB := hid (OB.out.only o7 (by simp)); have HB := hid (HB.out.trans o7); have RE := hid (RE.out.only_nil o7)
        clear hv7 o7 r7
        refine rgn.Walk.ys (v := ?_) rfl rfl rfl ?_ ?_
        rotate_left 1
        · intro W' hW'
          go_simp
          try with_reducible rfl
        try simp only [Act.put, List.setIfInBounds_toArray, List.set_cons_zero, List.set_cons_succ]
        refine rgn.Walk.ys (v := ?_) rfl rfl rfl ?_ ?_
        rotate_left 1
        · intro W' hW'
          go_simp
          try with_reducible rfl
        try simp only [Act.put, List.setIfInBounds_toArray, List.set_cons_zero, List.set_cons_succ]
        refine rgn.Walk.ys (v := ?_) rfl rfl rfl ?_ ?_
        rotate_left 1
        · intro W' hW'
          go_simp
          try with_reducible rfl
        try simp only [Act.put, List.setIfInBounds_toArray, List.set_cons_zero, List.set_cons_succ]
        refine rgn.Walk.es ?_
        refine rgn.stepE rfl rfl (fun K hK => ?_)
        go_simp
        refine hK _ _ (Same.alloc _ OB.out.lt) ?_
        clear hK K
        try simp only [Act.put, List.setIfInBounds_toArray, List.set_cons_zero, List.set_cons_succ]
        have oa : Only [] w7 (w7.alloc (.cells #[.int .u32 0, .int .i64 0, .int .u32 0, .int .i64 0, .slice none 0 0] 32)) := (Only.refl _ _).alloc _
        have OX : Hid (Ob (w7.alloc (.cells #[.int .u32 0, .int .i64 0, .int .u32 0, .int .i64 0, .slice none 0 0] 32)) w7.heap.size 32 #[.int .u32 0, .int .i64 0, .int .u32 0, .int .i64 0, .slice none 0 0]) := hid (Ob.new _ _ _)
        have hwx : w.heap.size < w7.heap.size := OB.out.lt
        have OB := hid (OB.out.only oa (by simp)); have HB := hid (HB.out.trans oa)
        have hgx : g < w7.heap.size := by obtain ⟨_, _, e9, h9, _⟩ := RE.out.at_ (by omega); injection e9 with e9; injection e9 with e9; omega
        have RE := hid (RE.out.only_nil oa)
        have R7 := hid (R7.out.only_nil oa)
        have h7x : ∀ b off, A7 = some ⟨b, off, none⟩ → b ≠ w7.heap.size := fun b off e => by have h9 := h7x b off e; omega
        clear oa
        refine rgn.Walk.es ?_
        refine rgn.stepE rfl rfl (fun K hK => ?_)
        refine opStoreOb rfl 32 _ _ rfl (w7.heap.size) #[.int .u32 fr, .int .i64 fp, .int .u32 to, .int .i64 tp, .slice A7 n c7] rfl rfl _ _ OX.out rfl (by kernel_rfl) (by simp [Value.oneCell']) (fun W9 hW9 => ?_)
        have oX : Only [w7.heap.size] _ W9 := (Only.refl _ _).eq_all hW9 (Or.inl (by simp))
        refine hK _ _ (oX.block w.heap.size OB.out.lt (by simp; omega)) ?_
        clear hK K
        try simp only [Act.put, List.setIfInBounds_toArray, List.set_cons_zero, List.set_cons_succ]
        have OX := hid (OX.out.eq_all hW9 rfl); have OB := hid (OB.out.only oX (by simp; omega)); have HB := hid (HB.out.fresh oX (fun i hi => .inr (by simp at hi; omega)))
        have RE := hid (RE.out.only oX (fun bb off e _ hm => by injection e with e; injection e with e1 e2; simp at hm; omega))
        have hlx := OX.out.lt
        have R7 := hid (R7.out.only oX (fun b off e _ hm => h7x b off e (by simpa using hm)))
        clear hW9
        refine rgn.Walk.es ?_
        refine rgn.stepE rfl rfl (fun K hK => ?_)
        go_simp
        refine hK _ _ ((Same.refl w.heap.size) _) ?_
        clear hK K
        try simp only [Act.put, List.setIfInBounds_toArray, List.set_cons_zero, List.set_cons_succ]
        refine rgn.Walk.zs (NoPanic.normal ?_)
        have j0 : W9.cell? ⟨w7.heap.size, 0, none⟩ = some (.int .u32 fr) := OX.out.cell 0
        have j1 : W9.cell? ⟨w7.heap.size, 1, none⟩ = some (.int .i64 fp) := OX.out.cell 1
        have j2 : W9.cell? ⟨w7.heap.size, 2, none⟩ = some (.int .u32 to) := OX.out.cell 2
        have j3 : W9.cell? ⟨w7.heap.size, 3, none⟩ = some (.int .i64 tp) := OX.out.cell 3
        have j4 : W9.cell? ⟨w7.heap.size, 4, none⟩ = some (.slice A7 n c7) := OX.out.cell 4
        have i0 : W9.cell? ⟨w.heap.size, 0, none⟩ = some (.int .u32 fr) := OB.out.cell 0
        have i1 : W9.cell? ⟨w.heap.size, 1, none⟩ = some (.int .i64 fp) := OB.out.cell 1
        have i2 : W9.cell? ⟨w.heap.size, 2, none⟩ = some (.int .u32 to) := OB.out.cell 2
        have i3 : W9.cell? ⟨w.heap.size, 3, none⟩ = some (.int .i64 tp) := OB.out.cell 3
        have i4 : W9.cell? ⟨w.heap.size, 4, none⟩ = some (.slice A n c) := OB.out.cell 4
        go_wp2_with (first
          | (refine wp_loadObG (by first | rfl | simp [Region.wanted, yielded]) 32 (.tmp 9) rfl (w7.heap.size) rfl _ 32 OX.out Try.underlying32 rfl (by kernel_rfl) ?_; try simp only [Act.put, List.setIfInBounds_toArray, List.set_cons_zero, List.set_cons_succ])
          | (refine wp_loadOb rfl 32 (.tmp 3) rfl w.heap.size rfl _ 32 OB.out Try.underlying32 rfl (by kernel_rfl) ?_; try simp only [Act.put, List.setIfInBounds_toArray, List.set_cons_zero, List.set_cons_succ])
          | fail)
        refine (grams1 _ fr fp to tp A7 A n n c7 c l R7.out (HL.out.only_nil HB.out) (by omega) (by omega)).mono ?_
        rintro x w8 ⟨rfl, o8⟩
        clear j0 j1 j2 j3 j4 i0 i1 i2 i3 i4
        have OB := hid (OB.out.only o8 (by simp)); have HB := hid (HB.out.trans o8); have RE := hid (RE.out.only_nil o8); clear o8
        have k0 : w8.cell? ⟨w.heap.size, 0, none⟩ = some (.int .u32 fr) := OB.out.cell 0
        have k2 : w8.cell? ⟨w.heap.size, 2, none⟩ = some (.int .u32 to) := OB.out.cell 2
        go_wp2_with fail
        refine (dec1 _ b9 to (some ⟨g, 0, none⟩) LL cap en RE.out (by simp) (by omega) (by omega)).mono ?_
        rintro x w10 ⟨v10, rfl, hv10, o10⟩
        obtain ⟨A10, c10, ev10, _, _, _, _⟩ := hv10.slice
        rw [HG4.out, HD4.out]
        rw [HD5.out] at ev10
        subst ev10
        have HB := hid ((HB.out.trans o10).alloc (.cells #[.int .u32 0, .int .i64 0, .int .u32 0, .int .i64 0, .slice A10 0 c10] 32))
        clear hv10 o10 k0 k2
        go_wp2_with fail
        refine (ev.known _).mono ?_
        rintro x w9 ⟨rfl, o9⟩
        have HB := hid (HB.out.trans o9); clear o9
        go_wp2
        go_ret
        exact ⟨rfl, HB.out⟩
      · refine rgn.stepE rfl rfl (fun K hK => ?_)
        go_simp
        refine hK _ _ (Same.alloc _ OB.out.lt) ?_
        clear hK K
        try simp only [Act.put, List.setIfInBounds_toArray, List.set_cons_zero, List.set_cons_succ]
        have oa : Only [] w6 (w6.alloc (.cells #[.int .u32 0, .int .i64 0, .int .u32 0, .int .i64 0, .slice none 0 0] 32)) := (Only.refl _ _).alloc _
        have OX : Hid (Ob (w6.alloc (.cells #[.int .u32 0, .int .i64 0, .int .u32 0, .int .i64 0, .slice none 0 0] 32)) w6.heap.size 32 #[.int .u32 0, .int .i64 0, .int .u32 0, .int .i64 0, .slice none 0 0]) := hid (Ob.new _ _ _)
        have hwx : w.heap.size < w6.heap.size := OB.out.lt
        have OB := hid (OB.out.only oa (by simp)); have HB := hid (HB.out.trans oa)
        have hgx : g < w6.heap.size := by obtain ⟨_, _, e9, h9, _⟩ := RE.out.at_ (by omega); injection e9 with e9; injection e9 with e9; omega
        have RE := hid (RE.out.only_nil oa)
        have R6 := hid (R6.out.only_nil oa)
        clear oa
        refine rgn.Walk.es ?_
        refine rgn.stepE rfl rfl (fun K hK => ?_)
        have hox := OX.out.lt
        go_simp
        refine (dec1 _ fr to A6 (LL + n1) c6 (en ++ q) (by have h9 := R6.out; rwa [HQL.out] at h9) N6.out hc6 (by omega)).mono ?_
        rintro x w7 ⟨v7, rfl, hv7, o7⟩
        rw [HGo.out, HDo.out]
        obtain ⟨A7, c7, ev7, _, _, r7, hb7⟩ := hv7.slice
        rw [HDD.out, HLen.out] at ev7
        have R7 : Hid (Rd .u8 w7 A7 n l) := hid (by have h9 := r7; rwa [HDD.out, HLen.out] at h9)
        have h7x : ∀ b off, A7 = some ⟨b, off, none⟩ → b ≠ w6.heap.size := fun b off e => by have h9 := hv7.lt b (hb7 b off e); omega
        clear hb7
        subst ev7
        refine hK _ _ (o7.block w.heap.size OB.out.lt (by simp)) ?_
        clear hK K
        try simp only [Act.put, List.setIfInBounds_toArray, List.set_cons_zero, List.set_cons_succ]
        have OB := hid (OB.out.only o7 (by simp)); have HB := hid (HB.out.trans o7); have RE := hid (RE.out.only_nil o7)
        have OX := hid (OX.out.only o7 (by simp))
        clear hv7 o7 r7
        refine rgn.Walk.ys (v := ?_) rfl rfl rfl ?_ ?_
        rotate_left 1
        · intro W' hW'
          go_simp
          try with_reducible rfl
        try simp only [Act.put, List.setIfInBounds_toArray, List.set_cons_zero, List.set_cons_succ]
        refine rgn.Walk.ys (v := ?_) rfl rfl rfl ?_ ?_
        rotate_left 1
        · intro W' hW'
          go_simp
          try with_reducible rfl
        try simp only [Act.put, List.setIfInBounds_toArray, List.set_cons_zero, List.set_cons_succ]
        refine rgn.Walk.ys (v := ?_) rfl rfl rfl ?_ ?_
        rotate_left 1
        · intro W' hW'
          go_simp
          try with_reducible rfl
        try simp only [Act.put, List.setIfInBounds_toArray, List.set_cons_zero, List.set_cons_succ]
        refine rgn.Walk.es ?_
        refine rgn.stepE rfl rfl (fun K hK => ?_)
        refine opStoreOb rfl 32 _ _ rfl (w6.heap.size) #[.int .u32 fr, .int .i64 fp, .int .u32 to, .int .i64 tp, .slice A7 n c7] rfl rfl _ _ OX.out rfl (by kernel_rfl) (by simp [Value.oneCell']) (fun W9 hW9 => ?_)
        have oX : Only [w6.heap.size] _ W9 := (Only.refl _ _).eq_all hW9 (Or.inl (by simp))
        refine hK _ _ (oX.block w.heap.size OB.out.lt (by simp; omega)) ?_
        clear hK K
        try simp only [Act.put, List.setIfInBounds_toArray, List.set_cons_zero, List.set_cons_succ]
        have OX := hid (OX.out.eq_all hW9 rfl); have OB := hid (OB.out.only oX (by simp; omega)); have HB := hid (HB.out.fresh oX (fun i hi => .inr (by simp at hi; omega)))
        have RE := hid (RE.out.only oX (fun bb off e _ hm => by injection e with e; injection e with e1 e2; simp at hm; omega))
        have hlx := OX.out.lt
        have R7 := hid (R7.out.only oX (fun b off e _ hm => h7x b off e (by simpa using hm)))
        clear hW9
        refine rgn.Walk.es ?_
        refine rgn.stepE rfl rfl (fun K hK => ?_)
        go_simp
        refine hK _ _ ((Same.refl w.heap.size) _) ?_
        clear hK K
        try simp only [Act.put, List.setIfInBounds_toArray, List.set_cons_zero, List.set_cons_succ]
        refine rgn.Walk.zs (NoPanic.normal ?_)
        have j0 : W9.cell? ⟨w6.heap.size, 0, none⟩ = some (.int .u32 fr) := OX.out.cell 0
        have j1 : W9.cell? ⟨w6.heap.size, 1, none⟩ = some (.int .i64 fp) := OX.out.cell 1
        have j2 : W9.cell? ⟨w6.heap.size, 2, none⟩ = some (.int .u32 to) := OX.out.cell 2
        have j3 : W9.cell? ⟨w6.heap.size, 3, none⟩ = some (.int .i64 tp) := OX.out.cell 3
        have j4 : W9.cell? ⟨w6.heap.size, 4, none⟩ = some (.slice A7 n c7) := OX.out.cell 4
        have i0 : W9.cell? ⟨w.heap.size, 0, none⟩ = some (.int .u32 fr) := OB.out.cell 0
        have i1 : W9.cell? ⟨w.heap.size, 1, none⟩ = some (.int .i64 fp) := OB.out.cell 1
        have i2 : W9.cell? ⟨w.heap.size, 2, none⟩ = some (.int .u32 to) := OB.out.cell 2
        have i3 : W9.cell? ⟨w.heap.size, 3, none⟩ = some (.int .i64 tp) := OB.out.cell 3
        have i4 : W9.cell? ⟨w.heap.size, 4, none⟩ = some (.slice A n c) := OB.out.cell 4
        go_wp2_with (first
          | (refine wp_loadObG (by first | rfl | simp [Region.wanted, yielded]) 32 (.tmp 9) rfl (w6.heap.size) rfl _ 32 OX.out Try.underlying32 rfl (by kernel_rfl) ?_; try simp only [Act.put, List.setIfInBounds_toArray, List.set_cons_zero, List.set_cons_succ])
          | (refine wp_loadOb rfl 32 (.tmp 3) rfl w.heap.size rfl _ 32 OB.out Try.underlying32 rfl (by kernel_rfl) ?_; try simp only [Act.put, List.setIfInBounds_toArray, List.set_cons_zero, List.set_cons_succ])
          | fail)
        refine (grams1 _ fr fp to tp A7 A n n c7 c l R7.out (HL.out.only_nil HB.out) (by omega) (by omega)).mono ?_
        rintro x w8 ⟨rfl, o8⟩
        clear j0 j1 j2 j3 j4 i0 i1 i2 i3 i4
        have OB := hid (OB.out.only o8 (by simp)); have HB := hid (HB.out.trans o8); have RE := hid (RE.out.only_nil o8); clear o8
        have k0 : w8.cell? ⟨w.heap.size, 0, none⟩ = some (.int .u32 fr) := OB.out.cell 0
        have k2 : w8.cell? ⟨w.heap.size, 2, none⟩ = some (.int .u32 to) := OB.out.cell 2
        go_wp2_with fail
        refine (dec1 _ b9 to (some ⟨g, 0, none⟩) LL cap en RE.out (by simp) (by omega) (by omega)).mono ?_
        rintro x w10 ⟨v10, rfl, hv10, o10⟩
        obtain ⟨A10, c10, ev10, _, _, _, _⟩ := hv10.slice
        rw [HG4.out, HD4.out]
        rw [HD5.out] at ev10
        subst ev10
        have HB := hid ((HB.out.trans o10).alloc (.cells #[.int .u32 0, .int .i64 0, .int .u32 0, .int .i64 0, .slice A10 0 c10] 32))
        clear hv10 o10 k0 k2
        go_wp2_with fail
        refine (ev.known _).mono ?_
        rintro x w9 ⟨rfl, o9⟩
        have HB := hid (HB.out.trans o9); clear o9
        go_wp2
        go_ret
        exact ⟨rfl, HB.out⟩
    · refine rgn.stepE rfl rfl (fun K hK => ?_)
      go_simp
      refine hK _ _ (Same.alloc _ OB.out.lt) ?_
      clear hK K
      try simp only [Act.put, List.setIfInBounds_toArray, List.set_cons_zero, List.set_cons_succ]
      have oa : Only [] W (W.alloc (.cells #[.int .u32 0, .int .i64 0, .int .u32 0, .int .i64 0, .slice none 0 0] 32)) := (Only.refl _ _).alloc _
      have OX : Hid (Ob (W.alloc (.cells #[.int .u32 0, .int .i64 0, .int .u32 0, .int .i64 0, .slice none 0 0] 32)) W.heap.size 32 #[.int .u32 0, .int .i64 0, .int .u32 0, .int .i64 0, .slice none 0 0]) := hid (Ob.new _ _ _)
      have hwx : w.heap.size < W.heap.size := OB.out.lt
      have OB := hid (OB.out.only oa (by simp)); have HB := hid (HB.out.trans oa)
      have hgx := HEN.out.base_le.2
      have HEN := hid (HEN.out.only_nil oa)
      clear oa
      refine rgn.Walk.es ?_
      refine rgn.stepE rfl rfl (fun K hK => ?_)
      refine opAppOld rfl (.tmp 38) (.tmp 39) _ rfl hlp.elemB (w.heap.size + 1) g LL cap en rfl HEN.out A1 n1 c1 q rfl (HQ.out.only_nil HB.out) HC1.out (by omega) (by unfold maxLen; omega) OB.out.lt ?_
      intro v6 w6 hv hg hrd
      refine hK _ _ (Same.grown hg OB.out.lt (fun e => by injection e with e; omega)) ?_
      clear hK K
      try simp only [Act.put, List.setIfInBounds_toArray, List.set_cons_zero, List.set_cons_succ]
      have OB := hid (OB.out.grown hg (fun e => by injection e with e; omega)); have HB := hid (HB.out.of_grown hg (fun i hi => .inr (by injection hi with hi; omega))); have RE := hid hrd
      obtain ⟨A6, c6, ev6, hc6, hm6, r6', hb6⟩ := hv.slice
      have N6 := hid (own_cap2 hv ev6)
      have R6 := hid r6'
      rw [HQL.out] at ev6 hc6
      subst ev6
      have OX := hid (OX.out.grown hg (fun e => by injection e with e; have h7 := HEN.out.base_le.2; omega))
      clear hv hg hrd r6' hb6
      refine rgn.Walk.es ?_
      refine rgn.stepE rfl rfl (fun K hK => ?_)
      have hox := OX.out.lt
      go_simp
      refine (dec1 _ fr to A6 (LL + n1) c6 (en ++ q) (by have h9 := R6.out; rwa [HQL.out] at h9) N6.out hc6 (by omega)).mono ?_
      rintro x w7 ⟨v7, rfl, hv7, o7⟩
      rw [HGo.out, HDo.out]
      obtain ⟨A7, c7, ev7, _, _, r7, hb7⟩ := hv7.slice
      rw [HDD.out, HLen.out] at ev7
      have R7 : Hid (Rd .u8 w7 A7 n l) := hid (by have h9 := r7; rwa [HDD.out, HLen.out] at h9)
      have h7x : ∀ b off, A7 = some ⟨b, off, none⟩ → b ≠ W.heap.size := fun b off e => by have h9 := hv7.lt b (hb7 b off e); omega
      clear hb7
      subst ev7
      refine hK _ _ (o7.block w.heap.size OB.out.lt (by simp)) ?_
      clear hK K
      try simp only [Act.put, List.setIfInBounds_toArray, List.set_cons_zero, List.set_cons_succ]
      have OB := hid (OB.out.only o7 (by simp)); have HB := hid (HB.out.trans o7); have RE := hid (RE.out.only_nil o7)
      have OX := hid (OX.out.only o7 (by simp))
      clear hv7 o7 r7
      refine rgn.Walk.ys (v := ?_) rfl rfl rfl ?_ ?_
      rotate_left 1
      · intro W' hW'
        go_simp
        try with_reducible rfl
      try simp only [Act.put, List.setIfInBounds_toArray, List.set_cons_zero, List.set_cons_succ]
      refine rgn.Walk.ys (v := ?_) rfl rfl rfl ?_ ?_
      rotate_left 1
      · intro W' hW'
        go_simp
        try with_reducible rfl
      try simp only [Act.put, List.setIfInBounds_toArray, List.set_cons_zero, List.set_cons_succ]
      refine rgn.Walk.ys (v := ?_) rfl rfl rfl ?_ ?_
      rotate_left 1
      · intro W' hW'
        go_simp
        try with_reducible rfl
      try simp only [Act.put, List.setIfInBounds_toArray, List.set_cons_zero, List.set_cons_succ]
      refine rgn.Walk.es ?_
      refine rgn.stepE rfl rfl (fun K hK => ?_)
      refine opStoreOb rfl 32 _ _ rfl (W.heap.size) #[.int .u32 fr, .int .i64 fp, .int .u32 to, .int .i64 tp, .slice A7 n c7] rfl rfl _ _ OX.out rfl (by kernel_rfl) (by simp [Value.oneCell']) (fun W9 hW9 => ?_)
      have oX : Only [W.heap.size] _ W9 := (Only.refl _ _).eq_all hW9 (Or.inl (by simp))
      refine hK _ _ (oX.block w.heap.size OB.out.lt (by simp; omega)) ?_
      clear hK K
      try simp only [Act.put, List.setIfInBounds_toArray, List.set_cons_zero, List.set_cons_succ]
      have OX := hid (OX.out.eq_all hW9 rfl); have OB := hid (OB.out.only oX (by simp; omega)); have HB := hid (HB.out.fresh oX (fun i hi => .inr (by simp at hi; omega)))
      have RE := hid (RE.out.only oX (fun bb off e _ hm => by injection e with e; injection e with e1 e2; simp at hm; omega))
      have hlx := OX.out.lt
      have R7 := hid (R7.out.only oX (fun b off e _ hm => h7x b off e (by simpa using hm)))
      clear hW9
      refine rgn.Walk.es ?_
      refine rgn.stepE rfl rfl (fun K hK => ?_)
      go_simp
      refine hK _ _ ((Same.refl w.heap.size) _) ?_
      clear hK K
      try simp only [Act.put, List.setIfInBounds_toArray, List.set_cons_zero, List.set_cons_succ]
      refine rgn.Walk.zs (NoPanic.normal ?_)
      have j0 : W9.cell? ⟨W.heap.size, 0, none⟩ = some (.int .u32 fr) := OX.out.cell 0
      have j1 : W9.cell? ⟨W.heap.size, 1, none⟩ = some (.int .i64 fp) := OX.out.cell 1
      have j2 : W9.cell? ⟨W.heap.size, 2, none⟩ = some (.int .u32 to) := OX.out.cell 2
      have j3 : W9.cell? ⟨W.heap.size, 3, none⟩ = some (.int .i64 tp) := OX.out.cell 3
      have j4 : W9.cell? ⟨W.heap.size, 4, none⟩ = some (.slice A7 n c7) := OX.out.cell 4
      have i0 : W9.cell? ⟨w.heap.size, 0, none⟩ = some (.int .u32 fr) := OB.out.cell 0
      have i1 : W9.cell? ⟨w.heap.size, 1, none⟩ = some (.int .i64 fp) := OB.out.cell 1
      have i2 : W9.cell? ⟨w.heap.size, 2, none⟩ = some (.int .u32 to) := OB.out.cell 2
      have i3 : W9.cell? ⟨w.heap.size, 3, none⟩ = some (.int .i64 tp) := OB.out.cell 3
      have i4 : W9.cell? ⟨w.heap.size, 4, none⟩ = some (.slice A n c) := OB.out.cell 4
      go_wp2_with (first
        | (refine wp_loadObG (by first | rfl | simp [Region.wanted, yielded]) 32 (.tmp 9) rfl (W.heap.size) rfl _ 32 OX.out Try.underlying32 rfl (by kernel_rfl) ?_; try simp only [Act.put, List.setIfInBounds_toArray, List.set_cons_zero, List.set_cons_succ])
        | (refine wp_loadOb rfl 32 (.tmp 3) rfl w.heap.size rfl _ 32 OB.out Try.underlying32 rfl (by kernel_rfl) ?_; try simp only [Act.put, List.setIfInBounds_toArray, List.set_cons_zero, List.set_cons_succ])
        | fail)
      refine (grams1 _ fr fp to tp A7 A n n c7 c l R7.out (HL.out.only_nil HB.out) (by omega) (by omega)).mono ?_
      rintro x w8 ⟨rfl, o8⟩
      clear j0 j1 j2 j3 j4 i0 i1 i2 i3 i4
      have OB := hid (OB.out.only o8 (by simp)); have HB := hid (HB.out.trans o8); have RE := hid (RE.out.only_nil o8); clear o8
      have k0 : w8.cell? ⟨w.heap.size, 0, none⟩ = some (.int .u32 fr) := OB.out.cell 0
      have k2 : w8.cell? ⟨w.heap.size, 2, none⟩ = some (.int .u32 to) := OB.out.cell 2
      go_wp2_with fail
      refine (dec1 _ b9 to (some ⟨g, 0, none⟩) LL cap en RE.out (by simp) (by omega) (by omega)).mono ?_
      rintro x w10 ⟨v10, rfl, hv10, o10⟩
      obtain ⟨A10, c10, ev10, _, _, _, _⟩ := hv10.slice
      rw [HG4.out, HD4.out]
      rw [HD5.out] at ev10
      subst ev10
      have HB := hid ((HB.out.trans o10).alloc (.cells #[.int .u32 0, .int .i64 0, .int .u32 0, .int .i64 0, .slice A10 0 c10] 32))
      clear hv10 o10 k0 k2
      go_wp2_with fail
      refine (ev.known _).mono ?_
      rintro x w9 ⟨rfl, o9⟩
      have HB := hid (HB.out.trans o9); clear o9
      go_wp2
      go_ret
      exact ⟨rfl, HB.out⟩
  · have hyb : (y == 0) = false := by simpa using hy0
    obtain ⟨b9, hx9, hb0, hb1, hb2, hb3⟩ := xor32 fr y h1 (by omega)
    have HD4 := hid (HXE.out b9 ⟨hb0, hb1⟩ hb2 hb3)
    have HG4 : Hid (∀ v, dG b9 to en v = .agg #[.int .u32 0, .int .i64 0, .int .u32 0, .int .i64 0, v]) := hid (fun v => by unfold dG; rw [if_neg (by rw [HD4.out]; decide)])
    have HD5 : Hid ((dD b9 to en).length = 0) := hid (by unfold dD; rw [if_neg (by rw [HD4.out]; decide)]; rfl)
    clear hb2 hb3 HXE
    go_wp2_with fail
    refine wp_region_noPanic ?_
    refine rgn.regionT (R := Same w.heap.size) (by kernel_rfl) (Same.refl w.heap.size) (Same.trans (g := w.heap.size)) (fun _ _ _ _ _ h => h) (.y 0 (.y 1 (.y 2 (.y 3 (.y 4 (.y 5 (.b 6 11 (.b 7 11 (.y 8 (.y 9 (.y 10 (.e 11 (.e 12 (.e 13 .z)))))) (.e 7 (.y 8 (.y 9 (.y 10 (.e 12 (.e 13 .z))))))) (.e 6 (.e 7 (.y 8 (.y 9 (.y 10 (.e 12 (.e 13 .z)))))))))))))) (by kernel_rfl) (fun W hWd => ?_)
    have HWd := hid hWd; clear hWd
    have OB := hid (OB.out.eq_drew HWd.out); have HB := hid (HB.out.eq_drew HWd.out)
    have HEN : Hid (Own .u8 5 W (w.heap.size + 1) (.slice (some ⟨g, 0, none⟩) LL cap) en) := hid (by rw [HWd.out]; exact HEN.out)
    refine rgn.Walk.ys (v := ?_) rfl rfl rfl ?_ ?_
    rotate_left 1
    · intro W' hW'
      go_simp
      try with_reducible rfl
    try simp only [Act.put, List.setIfInBounds_toArray, List.set_cons_zero, List.set_cons_succ]
    refine rgn.Walk.ys (v := ?_) rfl rfl rfl ?_ ?_
    rotate_left 1
    · intro W' hW'
      have q0 := (show W'.cell? ⟨w.heap.size, 0, none⟩ = some (.int .u32 fr) from (OB.out.same hW').cell 0)
      go_simp
      try with_reducible rfl
    try simp only [Act.put, List.setIfInBounds_toArray, List.set_cons_zero, List.set_cons_succ]
    refine rgn.Walk.ys (v := ?_) rfl rfl rfl ?_ ?_
    rotate_left 1
    · intro W' hW'
      go_simp
      try with_reducible rfl
    try simp only [Act.put, List.setIfInBounds_toArray, List.set_cons_zero, List.set_cons_succ]
    refine rgn.Walk.ys (v := ?_) rfl rfl rfl ?_ ?_
    rotate_left 1
    · intro W' hW'
      have q0 := (show W'.cell? ⟨w.heap.size, 2, none⟩ = some (.int .u32 to) from (OB.out.same hW').cell 2)
      go_simp
      try with_reducible rfl
    try simp only [Act.put, List.setIfInBounds_toArray, List.set_cons_zero, List.set_cons_succ]
    refine rgn.Walk.ys (v := ?_) rfl rfl rfl ?_ ?_
    rotate_left 1
    · intro W' hW'
      go_simp
      try with_reducible rfl
    try simp only [Act.put, List.setIfInBounds_toArray, List.set_cons_zero, List.set_cons_succ]
    refine rgn.Walk.ys (v := ?_) rfl rfl rfl ?_ ?_
    rotate_left 1
    · intro W' hW'
      go_simp
      try with_reducible rfl
    try simp only [Act.put, List.setIfInBounds_toArray, List.set_cons_zero, List.set_cons_succ]
    refine rgn.Walk.bs ?_ ?_
    · refine rgn.stepE rfl rfl (fun K hK => ?_)
      refine opAppOld rfl (.tmp 38) (.tmp 39) _ rfl hlp.elemB (w.heap.size + 1) g LL cap en rfl HEN.out A1 n1 c1 q rfl (HQ.out.only_nil HB.out) HC1.out (by omega) (by unfold maxLen; omega) OB.out.lt ?_
      intro v6 w6 hv hg hrd
      refine hK _ _ (Same.grown hg OB.out.lt (fun e => by injection e with e; omega)) ?_
      clear hK K
      try simp only [Act.put, List.setIfInBounds_toArray, List.set_cons_zero, List.set_cons_succ]
      have OB := hid (OB.out.grown hg (fun e => by injection e with e; omega)); have HB := hid (HB.out.of_grown hg (fun i hi => .inr (by injection hi with hi; omega))); have RE := hid hrd
      obtain ⟨A6, c6, ev6, hc6, hm6, r6', hb6⟩ := hv.slice
      have N6 := hid (own_cap2 hv ev6)
      have R6 := hid r6'
      rw [HQL.out] at ev6 hc6
      subst ev6
      clear hv hg hrd r6' hb6
      refine rgn.Walk.bs ?_ ?_
      · refine rgn.stepE rfl rfl (fun K hK => ?_)
        go_simp
        refine (dec1 _ fr to A6 (LL + n1) c6 (en ++ q) (by have h9 := R6.out; rwa [HQL.out] at h9) N6.out hc6 (by omega)).mono ?_
        rintro x w7 ⟨v7, rfl, hv7, o7⟩
        rw [HGo.out, HDo.out]
        obtain ⟨A7, c7, ev7, _, _, r7, hb7⟩ := hv7.slice
        rw [HDD.out, HLen.out] at ev7
        have R7 : Hid (Rd .u8 w7 A7 n l) := hid (by have h9 := r7; rwa [HDD.out, HLen.out] at h9)
        have h7x : ∀ b off, A7 = some ⟨b, off, none⟩ → b < w7.heap.size := fun b off e => (hv7.lt b (hb7 b off e)).2
        clear hb7
        subst ev7
        refine hK _ _ (o7.block w.heap.size OB.out.lt (by simp)) ?_
        clear hK K
        try simp only [Act.put, List.setIfInBounds_toArray, List.set_cons_zero, List.set_cons_succ]
        have OB := hid (OB.out.only o7 (by simp)); have HB := hid (HB.out.trans o7); have RE := hid (RE.out.only_nil o7)
        clear hv7 o7 r7
        refine rgn.Walk.ys (v := ?_) rfl rfl rfl ?_ ?_
        rotate_left 1
        · intro W' hW'
          go_simp
          try with_reducible rfl
        try simp only [Act.put, List.setIfInBounds_toArray, List.set_cons_zero, List.set_cons_succ]
        refine rgn.Walk.ys (v := ?_) rfl rfl rfl ?_ ?_
        rotate_left 1
        · intro W' hW'
          go_simp
          try with_reducible rfl
        try simp only [Act.put, List.setIfInBounds_toArray, List.set_cons_zero, List.set_cons_succ]
        refine rgn.Walk.ys (v := ?_) rfl rfl rfl ?_ ?_
        rotate_left 1
        · intro W' hW'
          go_simp
          try with_reducible rfl
        try simp only [Act.put, List.setIfInBounds_toArray, List.set_cons_zero, List.set_cons_succ]
        refine rgn.Walk.es ?_
        refine rgn.stepE rfl rfl (fun K hK => ?_)
        go_simp
        refine hK _ _ (Same.alloc _ OB.out.lt) ?_
        clear hK K
        try simp only [Act.put, List.setIfInBounds_toArray, List.set_cons_zero, List.set_cons_succ]
        have oa : Only [] w7 (w7.alloc (.cells #[.int .u32 0, .int .i64 0, .int .u32 0, .int .i64 0, .slice none 0 0] 32)) := (Only.refl _ _).alloc _
        have OX : Hid (Ob (w7.alloc (.cells #[.int .u32 0, .int .i64 0, .int .u32 0, .int .i64 0, .slice none 0 0] 32)) w7.heap.size 32 #[.int .u32 0, .int .i64 0, .int .u32 0, .int .i64 0, .slice none 0 0]) := hid (Ob.new _ _ _)
        have hwx : w.heap.size < w7.heap.size := OB.out.lt
        have OB := hid (OB.out.only oa (by simp)); have HB := hid (HB.out.trans oa)
        have hgx : g < w7.heap.size := by obtain ⟨_, _, e9, h9, _⟩ := RE.out.at_ (by omega); injection e9 with e9; injection e9 with e9; omega
        have RE := hid (RE.out.only_nil oa)
        have R7 := hid (R7.out.only_nil oa)
        have h7x : ∀ b off, A7 = some ⟨b, off, none⟩ → b ≠ w7.heap.size := fun b off e => by have h9 := h7x b off e; omega
        clear oa
        refine rgn.Walk.es ?_
        refine rgn.stepE rfl rfl (fun K hK => ?_)
        refine opStoreOb rfl 32 _ _ rfl (w7.heap.size) #[.int .u32 fr, .int .i64 fp, .int .u32 to, .int .i64 tp, .slice A7 n c7] rfl rfl _ _ OX.out rfl (by kernel_rfl) (by simp [Value.oneCell']) (fun W9 hW9 => ?_)
        have oX : Only [w7.heap.size] _ W9 := (Only.refl _ _).eq_all hW9 (Or.inl (by simp))
        refine hK _ _ (oX.block w.heap.size OB.out.lt (by simp; omega)) ?_
        clear hK K
        try simp only [Act.put, List.setIfInBounds_toArray, List.set_cons_zero, List.set_cons_succ]
        have OX := hid (OX.out.eq_all hW9 rfl); have OB := hid (OB.out.only oX (by simp; omega)); have HB := hid (HB.out.fresh oX (fun i hi => .inr (by simp at hi; omega)))
        have RE := hid (RE.out.only oX (fun bb off e _ hm => by injection e with e; injection e with e1 e2; simp at hm; omega))
        have hlx := OX.out.lt
        have R7 := hid (R7.out.only oX (fun b off e _ hm => h7x b off e (by simpa using hm)))
        clear hW9
        refine rgn.Walk.es ?_
        refine rgn.stepE rfl rfl (fun K hK => ?_)
        go_simp
        refine hK _ _ ((Same.refl w.heap.size) _) ?_
        clear hK K
        try simp only [Act.put, List.setIfInBounds_toArray, List.set_cons_zero, List.set_cons_succ]
        refine rgn.Walk.zs (NoPanic.normal ?_)
        have j0 : W9.cell? ⟨w7.heap.size, 0, none⟩ = some (.int .u32 fr) := OX.out.cell 0
        have j1 : W9.cell? ⟨w7.heap.size, 1, none⟩ = some (.int .i64 fp) := OX.out.cell 1
        have j2 : W9.cell? ⟨w7.heap.size, 2, none⟩ = some (.int .u32 to) := OX.out.cell 2
        have j3 : W9.cell? ⟨w7.heap.size, 3, none⟩ = some (.int .i64 tp) := OX.out.cell 3
        have j4 : W9.cell? ⟨w7.heap.size, 4, none⟩ = some (.slice A7 n c7) := OX.out.cell 4
        have i0 : W9.cell? ⟨w.heap.size, 0, none⟩ = some (.int .u32 fr) := OB.out.cell 0
        have i1 : W9.cell? ⟨w.heap.size, 1, none⟩ = some (.int .i64 fp) := OB.out.cell 1
        have i2 : W9.cell? ⟨w.heap.size, 2, none⟩ = some (.int .u32 to) := OB.out.cell 2
        have i3 : W9.cell? ⟨w.heap.size, 3, none⟩ = some (.int .i64 tp) := OB.out.cell 3
        have i4 : W9.cell? ⟨w.heap.size, 4, none⟩ = some (.slice A n c) := OB.out.cell 4
        go_wp2_with (first
          | (refine wp_loadObG (by first | rfl | simp [Region.wanted, yielded]) 32 (.tmp 9) rfl (w7.heap.size) rfl _ 32 OX.out Try.underlying32 rfl (by kernel_rfl) ?_; try simp only [Act.put, List.setIfInBounds_toArray, List.set_cons_zero, List.set_cons_succ])
          | (refine wp_loadOb rfl 32 (.tmp 3) rfl w.heap.size rfl _ 32 OB.out Try.underlying32 rfl (by kernel_rfl) ?_; try simp only [Act.put, List.setIfInBounds_toArray, List.set_cons_zero, List.set_cons_succ])
          | fail)
        refine (grams1 _ fr fp to tp A7 A n n c7 c l R7.out (HL.out.only_nil HB.out) (by omega) (by omega)).mono ?_
        rintro x w8 ⟨rfl, o8⟩
        clear j0 j1 j2 j3 j4 i0 i1 i2 i3 i4
        have OB := hid (OB.out.only o8 (by simp)); have HB := hid (HB.out.trans o8); have RE := hid (RE.out.only_nil o8); clear o8
        have k0 : w8.cell? ⟨w.heap.size, 0, none⟩ = some (.int .u32 fr) := OB.out.cell 0
        have k2 : w8.cell? ⟨w.heap.size, 2, none⟩ = some (.int .u32 to) := OB.out.cell 2
        go_wp2_with fail
        refine (dec1 _ b9 to (some ⟨g, 0, none⟩) LL cap en RE.out (by simp) (by omega) (by omega)).mono ?_
        rintro x w10 ⟨v10, rfl, hv10, o10⟩
        obtain ⟨A10, c10, ev10, _, _, _, _⟩ := hv10.slice
        rw [HG4.out, HD4.out]
        rw [HD5.out] at ev10
        subst ev10
        have HB := hid ((HB.out.trans o10).alloc (.cells #[.int .u32 0, .int .i64 0, .int .u32 0, .int .i64 0, .slice A10 0 c10] 32))
        clear hv10 o10 k0 k2
        go_wp2_with fail
        refine (ev.known _).mono ?_
        rintro x w9 ⟨rfl, o9⟩
        have HB := hid (HB.out.trans o9); clear o9
        go_wp2
        go_ret
        exact ⟨rfl, HB.out⟩
      · refine rgn.stepE rfl rfl (fun K hK => ?_)
        go_simp
        refine hK _ _ (Same.alloc _ OB.out.lt) ?_
        clear hK K
        try simp only [Act.put, List.setIfInBounds_toArray, List.set_cons_zero, List.set_cons_succ]
        have oa : Only [] w6 (w6.alloc (.cells #[.int .u32 0, .int .i64 0, .int .u32 0, .int .i64 0, .slice none 0 0] 32)) := (Only.refl _ _).alloc _
        have OX : Hid (Ob (w6.alloc (.cells #[.int .u32 0, .int .i64 0, .int .u32 0, .int .i64 0, .slice none 0 0] 32)) w6.heap.size 32 #[.int .u32 0, .int .i64 0, .int .u32 0, .int .i64 0, .slice none 0 0]) := hid (Ob.new _ _ _)
        have hwx : w.heap.size < w6.heap.size := OB.out.lt
        have OB := hid (OB.out.only oa (by simp)); have HB := hid (HB.out.trans oa)
        have hgx : g < w6.heap.size := by obtain ⟨_, _, e9, h9, _⟩ := RE.out.at_ (by omega); injection e9 with e9; injection e9 with e9; omega
        have RE := hid (RE.out.only_nil oa)
        have R6 := hid (R6.out.only_nil oa)
        clear oa
        refine rgn.Walk.es ?_
        refine rgn.stepE rfl rfl (fun K hK => ?_)
        have hox := OX.out.lt
        go_simp
        refine (dec1 _ fr to A6 (LL + n1) c6 (en ++ q) (by have h9 := R6.out; rwa [HQL.out] at h9) N6.out hc6 (by omega)).mono ?_
        rintro x w7 ⟨v7, rfl, hv7, o7⟩
        rw [HGo.out, HDo.out]
        obtain ⟨A7, c7, ev7, _, _, r7, hb7⟩ := hv7.slice
        rw [HDD.out, HLen.out] at ev7
        have R7 : Hid (Rd .u8 w7 A7 n l) := hid (by have h9 := r7; rwa [HDD.out, HLen.out] at h9)
        have h7x : ∀ b off, A7 = some ⟨b, off, none⟩ → b ≠ w6.heap.size := fun b off e => by have h9 := hv7.lt b (hb7 b off e); omega
        clear hb7
        subst ev7
        refine hK _ _ (o7.block w.heap.size OB.out.lt (by simp)) ?_
        clear hK K
        try simp only [Act.put, List.setIfInBounds_toArray, List.set_cons_zero, List.set_cons_succ]
        have OB := hid (OB.out.only o7 (by simp)); have HB := hid (HB.out.trans o7); have RE := hid (RE.out.only_nil o7)
        have OX := hid (OX.out.only o7 (by simp))
        clear hv7 o7 r7
        refine rgn.Walk.ys (v := ?_) rfl rfl rfl ?_ ?_
        rotate_left 1
        · intro W' hW'
          go_simp
          try with_reducible rfl
        try simp only [Act.put, List.setIfInBounds_toArray, List.set_cons_zero, List.set_cons_succ]
        refine rgn.Walk.ys (v := ?_) rfl rfl rfl ?_ ?_
        rotate_left 1
        · intro W' hW'
          go_simp
          try with_reducible rfl
        try simp only [Act.put, List.setIfInBounds_toArray, List.set_cons_zero, List.set_cons_succ]
        refine rgn.Walk.ys (v := ?_) rfl rfl rfl ?_ ?_
        rotate_left 1
        · intro W' hW'
          go_simp
          try with_reducible rfl
        try simp only [Act.put, List.setIfInBounds_toArray, List.set_cons_zero, List.set_cons_succ]
        refine rgn.Walk.es ?_
        refine rgn.stepE rfl rfl (fun K hK => ?_)
        refine opStoreOb rfl 32 _ _ rfl (w6.heap.size) #[.int .u32 fr, .int .i64 fp, .int .u32 to, .int .i64 tp, .slice A7 n c7] rfl rfl _ _ OX.out rfl (by kernel_rfl) (by simp [Value.oneCell']) (fun W9 hW9 => ?_)
        have oX : Only [w6.heap.size] _ W9 := (Only.refl _ _).eq_all hW9 (Or.inl (by simp))
        refine hK _ _ (oX.block w.heap.size OB.out.lt (by simp; omega)) ?_
        clear hK K
        try simp only [Act.put, List.setIfInBounds_toArray, List.set_cons_zero, List.set_cons_succ]
        have OX := hid (OX.out.eq_all hW9 rfl); have OB := hid (OB.out.only oX (by simp; omega)); have HB := hid (HB.out.fresh oX (fun i hi => .inr (by simp at hi; omega)))
        have RE := hid (RE.out.only oX (fun bb off e _ hm => by injection e with e; injection e with e1 e2; simp at hm; omega))
        have hlx := OX.out.lt
        have R7 := hid (R7.out.only oX (fun b off e _ hm => h7x b off e (by simpa using hm)))
        clear hW9
        refine rgn.Walk.es ?_
        refine rgn.stepE rfl rfl (fun K hK => ?_)
        go_simp
        refine hK _ _ ((Same.refl w.heap.size) _) ?_
        clear hK K
        try simp only [Act.put, List.setIfInBounds_toArray, List.set_cons_zero, List.set_cons_succ]
        refine rgn.Walk.zs (NoPanic.normal ?_)
        have j0 : W9.cell? ⟨w6.heap.size, 0, none⟩ = some (.int .u32 fr) := OX.out.cell 0
        have j1 : W9.cell? ⟨w6.heap.size, 1, none⟩ = some (.int .i64 fp) := OX.out.cell 1
        have j2 : W9.cell? ⟨w6.heap.size, 2, none⟩ = some (.int .u32 to) := OX.out.cell 2
        have j3 : W9.cell? ⟨w6.heap.size, 3, none⟩ = some (.int .i64 tp) := OX.out.cell 3
        have j4 : W9.cell? ⟨w6.heap.size, 4, none⟩ = some (.slice A7 n c7) := OX.out.cell 4
        have i0 : W9.cell? ⟨w.heap.size, 0, none⟩ = some (.int .u32 fr) := OB.out.cell 0
        have i1 : W9.cell? ⟨w.heap.size, 1, none⟩ = some (.int .i64 fp) := OB.out.cell 1
        have i2 : W9.cell? ⟨w.heap.size, 2, none⟩ = some (.int .u32 to) := OB.out.cell 2
        have i3 : W9.cell? ⟨w.heap.size, 3, none⟩ = some (.int .i64 tp) := OB.out.cell 3
        have i4 : W9.cell? ⟨w.heap.size, 4, none⟩ = some (.slice A n c) := OB.out.cell 4
        go_wp2_with (first
          | (refine wp_loadObG (by first | rfl | simp [Region.wanted, yielded]) 32 (.tmp 9) rfl (w6.heap.size) rfl _ 32 OX.out Try.underlying32 rfl (by kernel_rfl) ?_; try simp only [Act.put, List.setIfInBounds_toArray, List.set_cons_zero, List.set_cons_succ])
          | (refine wp_loadOb rfl 32 (.tmp 3) rfl w.heap.size rfl _ 32 OB.out Try.underlying32 rfl (by kernel_rfl) ?_; try simp only [Act.put, List.setIfInBounds_toArray, List.set_cons_zero, List.set_cons_succ])
          | fail)
        refine (grams1 _ fr fp to tp A7 A n n c7 c l R7.out (HL.out.only_nil HB.out) (by omega) (by omega)).mono ?_
        rintro x w8 ⟨rfl, o8⟩
        clear j0 j1 j2 j3 j4 i0 i1 i2 i3 i4
        have OB := hid (OB.out.only o8 (by simp)); have HB := hid (HB.out.trans o8); have RE := hid (RE.out.only_nil o8); clear o8
        have k0 : w8.cell? ⟨w.heap.size, 0, none⟩ = some (.int .u32 fr) := OB.out.cell 0
        have k2 : w8.cell? ⟨w.heap.size, 2, none⟩ = some (.int .u32 to) := OB.out.cell 2
        go_wp2_with fail
        refine (dec1 _ b9 to (some ⟨g, 0, none⟩) LL cap en RE.out (by simp) (by omega) (by omega)).mono ?_
        rintro x w10 ⟨v10, rfl, hv10, o10⟩
        obtain ⟨A10, c10, ev10, _, _, _, _⟩ := hv10.slice
        rw [HG4.out, HD4.out]
        rw [HD5.out] at ev10
        subst ev10
        have HB := hid ((HB.out.trans o10).alloc (.cells #[.int .u32 0, .int .i64 0, .int .u32 0, .int .i64 0, .slice A10 0 c10] 32))
        clear hv10 o10 k0 k2
        go_wp2_with fail
        refine (ev.known _).mono ?_
        rintro x w9 ⟨rfl, o9⟩
        have HB := hid (HB.out.trans o9); clear o9
        go_wp2
        go_ret
        exact ⟨rfl, HB.out⟩
    · refine rgn.stepE rfl rfl (fun K hK => ?_)
      go_simp
      refine hK _ _ (Same.alloc _ OB.out.lt) ?_
      clear hK K
      try simp only [Act.put, List.setIfInBounds_toArray, List.set_cons_zero, List.set_cons_succ]
      have oa : Only [] W (W.alloc (.cells #[.int .u32 0, .int .i64 0, .int .u32 0, .int .i64 0, .slice none 0 0] 32)) := (Only.refl _ _).alloc _
      have OX : Hid (Ob (W.alloc (.cells #[.int .u32 0, .int .i64 0, .int .u32 0, .int .i64 0, .slice none 0 0] 32)) W.heap.size 32 #[.int .u32 0, .int .i64 0, .int .u32 0, .int .i64 0, .slice none 0 0]) := hid (Ob.new _ _ _)
      have hwx : w.heap.size < W.heap.size := OB.out.lt
      have OB := hid (OB.out.only oa (by simp)); have HB := hid (HB.out.trans oa)
      have hgx := HEN.out.base_le.2
      have HEN := hid (HEN.out.only_nil oa)
      clear oa
      refine rgn.Walk.es ?_
      refine rgn.stepE rfl rfl (fun K hK => ?_)
      refine opAppOld rfl (.tmp 38) (.tmp 39) _ rfl hlp.elemB (w.heap.size + 1) g LL cap en rfl HEN.out A1 n1 c1 q rfl (HQ.out.only_nil HB.out) HC1.out (by omega) (by unfold maxLen; omega) OB.out.lt ?_
      intro v6 w6 hv hg hrd
      refine hK _ _ (Same.grown hg OB.out.lt (fun e => by injection e with e; omega)) ?_
      clear hK K
      try simp only [Act.put, List.setIfInBounds_toArray, List.set_cons_zero, List.set_cons_succ]
      have OB := hid (OB.out.grown hg (fun e => by injection e with e; omega)); have HB := hid (HB.out.of_grown hg (fun i hi => .inr (by injection hi with hi; omega))); have RE := hid hrd
      obtain ⟨A6, c6, ev6, hc6, hm6, r6', hb6⟩ := hv.slice
      have N6 := hid (own_cap2 hv ev6)
      have R6 := hid r6'
      rw [HQL.out] at ev6 hc6
      subst ev6
      have OX := hid (OX.out.grown hg (fun e => by injection e with e; have h7 := HEN.out.base_le.2; omega))
      clear hv hg hrd r6' hb6
      refine rgn.Walk.es ?_
      refine rgn.stepE rfl rfl (fun K hK => ?_)
      have hox := OX.out.lt
      go_simp
      refine (dec1 _ fr to A6 (LL + n1) c6 (en ++ q) (by have h9 := R6.out; rwa [HQL.out] at h9) N6.out hc6 (by omega)).mono ?_
      rintro x w7 ⟨v7, rfl, hv7, o7⟩
      rw [HGo.out, HDo.out]
      obtain ⟨A7, c7, ev7, _, _, r7, hb7⟩ := hv7.slice
      rw [HDD.out, HLen.out] at ev7
      have R7 : Hid (Rd .u8 w7 A7 n l) := hid (by have h9 := r7; rwa [HDD.out, HLen.out] at h9)
      have h7x : ∀ b off, A7 = some ⟨b, off, none⟩ → b ≠ W.heap.size := fun b off e => by have h9 := hv7.lt b (hb7 b off e); omega
      clear hb7
      subst ev7
      refine hK _ _ (o7.block w.heap.size OB.out.lt (by simp)) ?_
      clear hK K
      try simp only [Act.put, List.setIfInBounds_toArray, List.set_cons_zero, List.set_cons_succ]
      have OB := hid (OB.out.only o7 (by simp)); have HB := hid (HB.out.trans o7); have RE := hid (RE.out.only_nil o7)
      have OX := hid (OX.out.only o7 (by simp))
      clear hv7 o7 r7
      refine rgn.Walk.ys (v := ?_) rfl rfl rfl ?_ ?_
      rotate_left 1
      · intro W' hW'
        go_simp
        try with_reducible rfl
      try simp only [Act.put, List.setIfInBounds_toArray, List.set_cons_zero, List.set_cons_succ]
      refine rgn.Walk.ys (v := ?_) rfl rfl rfl ?_ ?_
      rotate_left 1
      · intro W' hW'
        go_simp
        try with_reducible rfl
      try simp only [Act.put, List.setIfInBounds_toArray, List.set_cons_zero, List.set_cons_succ]
      refine rgn.Walk.ys (v := ?_) rfl rfl rfl ?_ ?_
      rotate_left 1
      · intro W' hW'
        go_simp
        try with_reducible rfl
      try simp only [Act.put, List.setIfInBounds_toArray, List.set_cons_zero, List.set_cons_succ]
      refine rgn.Walk.es ?_
      refine rgn.stepE rfl rfl (fun K hK => ?_)
      refine opStoreOb rfl 32 _ _ rfl (W.heap.size) #[.int .u32 fr, .int .i64 fp, .int .u32 to, .int .i64 tp, .slice A7 n c7] rfl rfl _ _ OX.out rfl (by kernel_rfl) (by simp [Value.oneCell']) (fun W9 hW9 => ?_)
      have oX : Only [W.heap.size] _ W9 := (Only.refl _ _).eq_all hW9 (Or.inl (by simp))
      refine hK _ _ (oX.block w.heap.size OB.out.lt (by simp; omega)) ?_
      clear hK K
      try simp only [Act.put, List.setIfInBounds_toArray, List.set_cons_zero, List.set_cons_succ]
      have OX := hid (OX.out.eq_all hW9 rfl); have OB := hid (OB.out.only oX (by simp; omega)); have HB := hid (HB.out.fresh oX (fun i hi => .inr (by simp at hi; omega)))
      have RE := hid (RE.out.only oX (fun bb off e _ hm => by injection e with e; injection e with e1 e2; simp at hm; omega))
      have hlx := OX.out.lt
      have R7 := hid (R7.out.only oX (fun b off e _ hm => h7x b off e (by simpa using hm)))
      clear hW9
      refine rgn.Walk.es ?_
      refine rgn.stepE rfl rfl (fun K hK => ?_)
      go_simp
      refine hK _ _ ((Same.refl w.heap.size) _) ?_
      clear hK K
      try simp only [Act.put, List.setIfInBounds_toArray, List.set_cons_zero, List.set_cons_succ]
      refine rgn.Walk.zs (NoPanic.normal ?_)
      have j0 : W9.cell? ⟨W.heap.size, 0, none⟩ = some (.int .u32 fr) := OX.out.cell 0
      have j1 : W9.cell? ⟨W.heap.size, 1, none⟩ = some (.int .i64 fp) := OX.out.cell 1
      have j2 : W9.cell? ⟨W.heap.size, 2, none⟩ = some (.int .u32 to) := OX.out.cell 2
      have j3 : W9.cell? ⟨W.heap.size, 3, none⟩ = some (.int .i64 tp) := OX.out.cell 3
      have j4 : W9.cell? ⟨W.heap.size, 4, none⟩ = some (.slice A7 n c7) := OX.out.cell 4
      have i0 : W9.cell? ⟨w.heap.size, 0, none⟩ = some (.int .u32 fr) := OB.out.cell 0
      have i1 : W9.cell? ⟨w.heap.size, 1, none⟩ = some (.int .i64 fp) := OB.out.cell 1
      have i2 : W9.cell? ⟨w.heap.size, 2, none⟩ = some (.int .u32 to) := OB.out.cell 2
      have i3 : W9.cell? ⟨w.heap.size, 3, none⟩ = some (.int .i64 tp) := OB.out.cell 3
      have i4 : W9.cell? ⟨w.heap.size, 4, none⟩ = some (.slice A n c) := OB.out.cell 4
      go_wp2_with (first
        | (refine wp_loadObG (by first | rfl | simp [Region.wanted, yielded]) 32 (.tmp 9) rfl (W.heap.size) rfl _ 32 OX.out Try.underlying32 rfl (by kernel_rfl) ?_; try simp only [Act.put, List.setIfInBounds_toArray, List.set_cons_zero, List.set_cons_succ])
        | (refine wp_loadOb rfl 32 (.tmp 3) rfl w.heap.size rfl _ 32 OB.out Try.underlying32 rfl (by kernel_rfl) ?_; try simp only [Act.put, List.setIfInBounds_toArray, List.set_cons_zero, List.set_cons_succ])
        | fail)
      refine (grams1 _ fr fp to tp A7 A n n c7 c l R7.out (HL.out.only_nil HB.out) (by omega) (by omega)).mono ?_
      rintro x w8 ⟨rfl, o8⟩
      clear j0 j1 j2 j3 j4 i0 i1 i2 i3 i4
      have OB := hid (OB.out.only o8 (by simp)); have HB := hid (HB.out.trans o8); have RE := hid (RE.out.only_nil o8); clear o8
      have k0 : w8.cell? ⟨w.heap.size, 0, none⟩ = some (.int .u32 fr) := OB.out.cell 0
      have k2 : w8.cell? ⟨w.heap.size, 2, none⟩ = some (.int .u32 to) := OB.out.cell 2
      go_wp2_with fail
      refine (dec1 _ b9 to (some ⟨g, 0, none⟩) LL cap en RE.out (by simp) (by omega) (by omega)).mono ?_
      rintro x w10 ⟨v10, rfl, hv10, o10⟩
      obtain ⟨A10, c10, ev10, _, _, _, _⟩ := hv10.slice
      rw [HG4.out, HD4.out]
      rw [HD5.out] at ev10
      subst ev10
      have HB := hid ((HB.out.trans o10).alloc (.cells #[.int .u32 0, .int .i64 0, .int .u32 0, .int .i64 0, .slice A10 0 c10] 32))
      clear hv10 o10 k0 k2
      go_wp2_with fail
      refine (ev.known _).mono ?_
      rintro x w9 ⟨rfl, o9⟩
      have HB := hid (HB.out.trans o9); clear o9
      go_wp2
      go_ret
      exact ⟨rfl, HB.out⟩
theorem back (w : World) (fr fp to tp y : Int) (A : Option Addr) (n c : Nat) (l : List Int) (A1 : Option Addr) (n1 c1 : Nat) (q : List Int) (hl : Rd .u8 w A n l) (hc0 : A = none → c = 0) (hq : Rd .u8 w A1 n1 q) (hc1 : A1 = none → c1 = 0) (hnb : n ≤ 4611686018427387903) (hnb1 : n1 ≤ 4611686018427387903) (h1 : 0 ≤ fr ∧ fr ≤ 4294967295) (h2 : 0 ≤ to ∧ to ≤ 4294967295) (hy : 0 ≤ y ∧ y ≤ 255) :
    Calls Try.prog 6 #[.agg #[.int .u32 fr, .int .i64 fp, .int .u32 to, .int .i64 tp, .slice A n c], .slice A1 n1 c1, .int .u8 y] w (fun e w' => e = .returned (.bool true) ∧ Only [] w w') := by
  have OB : Hid (Ob (w.alloc (.cells #[.int .u32 fr, .int .i64 fp, .int .u32 to, .int .i64 tp, .slice A n c] 32)) w.heap.size 32 #[.int .u32 fr, .int .i64 fp, .int .u32 to, .int .i64 tp, .slice A n c]) := hid (Ob.new _ _ _)
  have HB : Hid (Only [] w (w.alloc (.cells #[.int .u32 fr, .int .i64 fp, .int .u32 to, .int .i64 tp, .slice A n c] 32))) := hid ((Only.refl [] w).alloc _)
  by_cases hn : n + n1 > 70000
  · have hn' : (n : Int) + n1 > 70000 := by omega
    go_enter Try.func6, Try.ntmps6
    go_wp2_with (first
      | (refine wp_loadOb rfl 32 (.tmp 3) rfl w.heap.size rfl _ 32 OB.out Try.underlying32 rfl (by kernel_rfl) ?_; try simp only [Act.put, List.setIfInBounds_toArray, List.set_cons_zero, List.set_cons_succ])
      | fail)
    go_ret
    exact ⟨rfl, HB.out⟩
  · by_cases hgn : Good fp tp ∧ n ≤ 65507
    · exact backOk w fr fp to tp y A n c l A1 n1 c1 q (8 + n) hl hc0 hq hc1 (by omega) hgn.2 hgn.1 rfl h1 h2 hy
    · have hn' : ¬ ((n : Int) + n1 > 70000) := by omega
      have hs : ∃ er, er ≠ 0 ∧ Says fr fp to tp l n er [] := by
        by_cases hg : Good fp tp
        · exact ⟨5, by decide, .long hg (Nat.lt_of_not_le fun h => hgn ⟨hg, h⟩)⟩
        · exact ⟨1, by decide, .bad hg⟩
      obtain ⟨er, her, hs⟩ := hs
      have HL := hid hl; clear hl
      go_enter Try.func6, Try.ntmps6
      go_wp2_with (first
        | (refine wp_loadOb rfl 32 (.tmp 3) rfl w.heap.size rfl _ 32 OB.out Try.underlying32 rfl (by kernel_rfl) ?_; try simp only [Act.put, List.setIfInBounds_toArray, List.set_cons_zero, List.set_cons_succ])
        | fail)
      refine (encAny _ fr fp to tp A n c l er [] (HL.out.only_nil HB.out) hc0 hs).mono ?_
      rintro x w2 ⟨v2, rfl, hv2, o2⟩
      have HB := hid (HB.out.trans o2)
      obtain ⟨A2, cap2, ev2, _, _, _, _⟩ := hv2.slice
      subst ev2
      clear hv2 o2
      go_wp2_with fail
      refine (ev.known _).mono ?_
      rintro x w9 ⟨rfl, o9⟩
      have HB := hid (HB.out.trans o9); clear o9
      go_wp2
      go_ret
      exact ⟨rfl, HB.out⟩
end Go.Proofs.Ytnhakcgkhhficaa.udp
