/-
  Chapter 3 (wheel): the document's wheel, which holds a sorted list: spot, Cancel, At, Set, Due, by a walk of each text. Conditions: none but those typed.
-/
import Derived.Test.YtnachendenodkaaWhlL
namespace Go.Proofs.Ytnachendenodkaa.whl
set_option linter.unusedVariables false
set_option linter.unusedSimpArgs false
open Go.ChangeShapes Go.WideShapes Go.ChangeAt Go.RowKit Go.IntWalk Go.Lib
abbrev TR : TypeId := 52
abbrev TRs : TypeId := 29
/-- The document's wheel in block g: its row at A holds D. -/
structure DV (w : World) (g : Nat) (A : Option Addr) (c : Nat) (D : List Tm) : Prop where
  ob : Ob w g 31 #[.slice A D.length c]
  rd : RdS w A D.length 2 (tcs D)
  cap : D.length ≤ c
  cm : c ≤ maxLen
  nil : A = none → c = 0
  fm : A = none ∨ ∃ b off, A = some ⟨b, off, none⟩
  ne : ∀ b off, A = some ⟨b, off, none⟩ → b ≠ g
  lt : ∀ b off, A = some ⟨b, off, none⟩ → b < w.heap.size
  most : D.length ≤ 256
theorem DV.only {w w' : World} {g : Nat} {A : Option Addr} {c : Nat} {D : List Tm} {S : List Nat} (h : DV w g A c D) (o : Only S w w') (h1 : g ∉ S) (h2 : ∀ b off, A = some ⟨b, off, none⟩ → b ∉ S) : DV w' g A c D := ⟨h.ob.only o h1, h.rd.only o (fun b off e _ => h2 b off e), h.cap, h.cm, h.nil, h.fm, h.ne, fun b off e => Nat.lt_of_lt_of_le (h.lt b off e) o.size, h.most⟩
theorem DV.only_nil {w w' : World} {g : Nat} {A : Option Addr} {c : Nat} {D : List Tm} (h : DV w g A c D) (o : Only [] w w') : DV w' g A c D := h.only o (by simp) (by simp)
/-- What follows: it holds D', in its row or in a new one; nothing else is written. -/
def DNext (w : World) (g : Nat) (A : Option Addr) (D' : List Tm) (w' : World) : Prop := ∃ A' c', DV w' g A' c' D' ∧ (∀ b off, A' = some ⟨b, off, none⟩ → (∃ o, A = some ⟨b, o, none⟩) ∨ w.heap.size ≤ b) ∧ Only [g] w w'
theorem DNext.same {w w' : World} {g : Nat} {A : Option Addr} {c : Nat} {D : List Tm} (h : DV w g A c D) (o : Only [] w w') : DNext w g A D w' := ⟨A, c, h.only_nil o, fun b off e => .inl ⟨off, e⟩, o.more (by simp)⟩
theorem trElem : ElemS Try.prog TRs TR (.agg #[.int .i64 0, .int .i64 0]) 2 16 := ⟨Try.underlying29, by kernel_rfl, rfl, by omega⟩
theorem slLow (w : World) (A : Option Addr) (n c k : Nat) (cs : List Value) (hk : k ≤ n) (hnc : n ≤ c) (hcm : c ≤ maxLen) (hnil : A = none → c = 0) (hr : RdS w A n 2 cs) (hfm : A = none ∨ ∃ b off, A = some ⟨b, off, none⟩) :
    ∃ A' c', (∀ W : World, (Instr.slice TRs (.slice A n c) none (some (.int .i64 (k : Int))) none).run Try.prog W = .ok (.slice A' k c') W) ∧ RdS w A' k 2 (cs.take (k * 2)) ∧ (A' = none → c' = 0) ∧ (A' = none ∨ ∃ b off, A' = some ⟨b, off, none⟩) ∧ (∀ b off, A' = some ⟨b, off, none⟩ → ∃ o, A = some ⟨b, o, none⟩) := by
  unfold maxLen at hcm
  rcases hfm with rfl | ⟨b, off, rfl⟩
  · have hc := hnil rfl
    obtain rfl : k = 0 := by omega
    obtain rfl : n = 0 := by omega
    subst hc
    exact ⟨none, 0, fun W => by go_simp, by simpa using hr.take 0 (by omega), fun _ => rfl, .inl rfl, fun b off e => by cases e⟩
  · have g1 : (k : Int) ≤ (c : Int) := by omega
    exact ⟨some ⟨b, off, none⟩, c, fun W => by go_simp, hr.take k hk, fun e => (by cases e), .inr ⟨_, _, rfl⟩, fun b' off' e => ⟨off', e⟩⟩
theorem slHigh (w : World) (A : Option Addr) (n c k : Nat) (cs : List Value) (hk : k ≤ n) (hnc : n ≤ c) (hcm : c ≤ maxLen) (hnil : A = none → c = 0) (hr : RdS w A n 2 cs) (hfm : A = none ∨ ∃ b off, A = some ⟨b, off, none⟩) :
    ∃ A' c', (∀ W : World, (Instr.slice TRs (.slice A n c) (some (.int .i64 (k : Int))) none none).run Try.prog W = .ok (.slice A' (n - k) c') W) ∧ RdS w A' (n - k) 2 (cs.drop (k * 2)) ∧ (A' = none → c' = 0) ∧ (A' = none ∨ ∃ b off, A' = some ⟨b, off, none⟩) ∧ (∀ b off, A' = some ⟨b, off, none⟩ → ∃ o, A = some ⟨b, o, none⟩) ∧ n - k ≤ c' ∧ c' ≤ maxLen := by
  have hcm0 := hcm
  unfold maxLen at hcm
  rcases hfm with rfl | ⟨b, off, rfl⟩
  · have hc := hnil rfl
    obtain rfl : k = 0 := by omega
    obtain rfl : n = 0 := by omega
    subst hc
    exact ⟨none, 0, fun W => by go_simp, by simpa using hr, fun _ => rfl, .inl rfl, fun b off e => (by cases e), by omega, by omega⟩
  · have g2 : (k : Int) ≤ (n : Int) := by omega
    have g3 : (n : Int) ≤ (c : Int) := by omega
    by_cases hce : c = k
    · subst hce
      obtain rfl : n = c := by omega
      refine ⟨some ⟨b, off, none⟩, 0, fun W => ?_, hr.dropIf n (by omega) (Nat.le_refl _) (.inl ⟨rfl, rfl⟩), fun e => (by cases e), .inr ⟨_, _, rfl⟩, fun b' off' e => ⟨off', e⟩, by omega, by omega⟩
      go_simp
    · have g1 : ¬ (c : Int) = (k : Int) := by omega
      exact ⟨some ⟨b, off + k * 2, none⟩, c - k, fun W => by go_simp, hr.drop k hk, fun e => (by cases e), .inr ⟨_, _, rfl⟩, fun b' off' e => ⟨off, by injection e with e; injection e with e1 e2; rw [e1]⟩, by omega, by omega⟩
set_option maxHeartbeats 2000000 in
theorem spotD (w : World) (g : Nat) (A : Option Addr) (c : Nat) (D : List Tm) (key : Int) (h : DV w g A c D) : Calls Try.prog 29 #[.pointer (some ⟨g, 0, none⟩), .int .i64 key] w (KeyEnd D key w) := by
  have H := hid h
  obtain ⟨n, hL⟩ : ∃ n, D.length = n := ⟨_, rfl⟩
  have HL := hid hL
  have hn := h.most
  rw [hL] at hn
  have HO : Hid (Ob w g 31 #[.slice A n c]) := hid (by have := h.ob; rwa [hL] at this)
  clear hL h
  go_enter Try.func29, Try.ntmps29
  go_wp2_with fail
  go_loopw [5] (fun i wr => ∃ k : Nat, k ≤ n ∧ i = .int .i64 k ∧ Hid (∀ i, i < k → (gt D i).k ≠ key) ∧ Hid (Only [] w wr)) (fun i _ => n - (intOf i).toNat)
  case atStart => exact ⟨0, by omega, rfl, hid (fun i hi => absurd hi (by omega)), hid (Only.refl _ _)⟩
  case round =>
    obtain ⟨k, hk, rfl, HN, HB⟩ := hrel
    have c0 := (HO.out.only HB.out (by simp)).cell 0
    by_cases hlt : k < n
    · obtain ⟨b, off, rfl, hb, hc⟩ := ((TRd.of H.out.rd).only_nil HB.out).at_ (by rw [HL.out]; omega)
      obtain ⟨q0, q1⟩ := hc k (by rw [HL.out]; exact hlt)
      clear hc
      obtain ⟨u, hu⟩ : ∃ u, (gt D k).k = u := ⟨_, rfl⟩
      have HU := hid hu
      rw [hu] at q0
      clear hu q1
      by_cases he : u = key
      · have e1 : (u == key) = true := by simpa using he
        have HE := hid he
        clear he
        go_wp2
        go_ret
        exact ⟨_, rfl, .inr ⟨k, by rw [HL.out]; exact hlt, rfl, by rw [HU.out]; exact HE.out⟩, HB.out⟩
      · have e1 : (u == key) = false := by simpa using he
        have HE := hid he
        clear he
        go_wp2
        go_roundw
        case rel => exact ⟨k + 1, by omega, by go_num, hid (fun i hi => by
          rcases Nat.lt_or_ge i k with h1 | h1
          · exact HN.out i h1
          · obtain rfl : i = k := by omega
            rw [HU.out]; exact HE.out), HB⟩
        case measure => simp [intOf]; omega
    · obtain rfl : k = n := by omega
      go_wp2
      go_ret
      refine ⟨_, rfl, .inl ⟨rfl, fun t ht => ?_⟩, HB.out⟩
      obtain ⟨i, hi, rfl⟩ := List.mem_iff_getElem.1 ht
      have := HN.out i (by rw [← HL.out]; exact hi)
      rwa [gt_at D i hi] at this
theorem hasNo {D : List Tm} {key : Int} (h : ∀ t ∈ D, t.k ≠ key) : has D key = false := by
  unfold has
  rw [List.any_eq_false]
  intro t ht
  simpa using h t ht
set_option maxHeartbeats 2000000 in
theorem atD (w : World) (g : Nat) (A : Option Addr) (c : Nat) (D : List Tm) (key : Int) (h : DV w g A c D) : Calls Try.prog 20 #[.pointer (some ⟨g, 0, none⟩), .int .i64 key] w fun x w' => ((x = .returned (.tuple #[.int .i64 0, .bool false]) ∧ has D key = false) ∨ ∃ t, t ∈ D ∧ t.k = key ∧ x = .returned (.tuple #[.int .i64 t.a, .bool true])) ∧ Only [] w w' := by
  have H := hid h
  have hm := h.most
  have HF := hid (spotD w g A c D key h)
  clear h
  go_enter Try.func20, Try.ntmps20
  go_wp2_with fail
  refine HF.out.mono ?_
  rintro x w1 ⟨r, rfl, hr, o1⟩
  have Q1 := hid o1; clear o1
  rcases hr with ⟨rfl, hno⟩ | ⟨p, hp, rfl, hk⟩
  · have HE := hid (hasNo hno)
    clear hno
    go_wp2
    go_ret2
    exact ⟨.inl ⟨rfl, HE.out⟩, Q1.out⟩
  · have HP := hid hp; have HK := hid hk; clear hk
    have H1 := hid (H.out.only_nil Q1.out)
    have c0 := H1.out.ob.cell 0
    obtain ⟨b, off, rfl, hb, hc⟩ := (TRd.of H1.out.rd).at_ (by omega)
    obtain ⟨q0, q1⟩ := hc p hp
    have hpz : (p : Int) < D.length := by omega
    have HM := hid (gt_mem D p hp)
    clear hc hp
    obtain ⟨nn, hNN⟩ : ∃ nn, D.length = nn := ⟨_, rfl⟩
    rw [hNN] at c0 hpz hm
    clear hNN
    obtain ⟨u, hu⟩ : ∃ u, gt D p = u := ⟨_, rfl⟩
    rw [hu] at q0 q1 HM HK
    clear hu
    obtain ⟨ua, hua⟩ : ∃ ua, u.a = ua := ⟨_, rfl⟩
    rw [hua] at q1
    have HA := hid hua; clear hua q0
    go_wp2
    go_ret2
    exact ⟨.inr ⟨u, HM.out, HK.out, by rw [HA.out]; rfl⟩, Q1.out⟩
set_option maxRecDepth 100000 in
set_option maxHeartbeats 4000000 in
theorem cancelD (w : World) (g : Nat) (A : Option Addr) (c : Nat) (D : List Tm) (key : Int) (h : DV w g A c D) (hk : (keys D).Nodup) : Calls Try.prog 19 #[.pointer (some ⟨g, 0, none⟩), .int .i64 key] w fun x w' => x = .returned (.bool (has D key)) ∧ DNext w g A (rm D key) w' := by
  have H := hid h
  have HF := hid (spotD w g A c D key h)
  have Q : Hid (Only [] w w) := hid (Only.refl _ _)
  have hm := h.most
  have HMo := hid hm
  have HNd := hid hk
  obtain ⟨n, hL⟩ : ∃ n, D.length = n := ⟨_, rfl⟩
  have HL := hid hL
  have HO : Hid (Ob w g 31 #[.slice A n c]) := hid (by have := h.ob; rwa [hL] at this)
  rw [hL] at hm HMo
  clear hL h hk
  go_enter Try.func19, Try.ntmps19
  go_wp2_with fail
  refine HF.out.mono ?_
  rintro x w1 ⟨r, rfl, hr, o1⟩
  have Q := hid (Q.out.trans o1); clear o1
  rcases hr with ⟨rfl, hno⟩ | ⟨k, hp, rfl, hk⟩
  · have HE := hid (hasNo hno)
    clear hno
    go_wp2
    go_ret
    exact ⟨rBool HE.out.symm, by rw [has_rm HE.out]; exact DNext.same H.out Q.out⟩
  · have HP := hid hp
    have HE := hid (has_yes (gt_mem D k hp) hk)
    have HRM := hid (rm_at D key k HNd.out hp hk)
    have hkn : k < n := by rw [← HL.out]; exact hp
    clear hp hk
    have hcm := H.out.cm
    have hnc := H.out.cap
    rw [HL.out] at hnc
    have rd := H.out.rd
    rw [HL.out] at rd
    obtain ⟨A1, c1, sl1, r1, n1, f1, _⟩ := slLow w A n c k (tcs D) (by omega) hnc hcm H.out.nil rd H.out.fm
    obtain ⟨A2, c2, sl2, r2, n2, f2, _, _, _⟩ := slHigh w A n c (k + 1) (tcs D) (by omega) hnc hcm H.out.nil rd H.out.fm
    rw [show ((k + 1 : Nat) : Int) = (k : Int) + 1 from by omega] at sl2
    have HSL1 := hid sl1; have HSL2 := hid sl2; have HR1 := hid r1; have HR2 := hid r2; have HN1 := hid n1; have HN2 := hid n2; have HF1 := hid f1; have HF2 := hid f2
    clear sl1 sl2 r1 r2 n1 n2 f1 f2 hcm hnc rd
    go_wp2_with fail
    refine wp_region_noPanic ?_
    refine rgn.regionT (R := AnyW) (by kernel_rfl) (fun _ => AnyW.any _ _) (fun _ _ _ _ _ => AnyW.any _ _) (fun _ _ _ _ _ h => h) (.y 0 (.y 2 (.y 3 (.y 4 (.y 6 (.y 9 (.y 10 (.y 11 (.y 13 (.y 14 (.c 1 5 12 (.b 5 12 (.y 7 (.b 8 12 (.e 12 (.y 15 (.e 16 (.y 17 (.y 18 (.e 19 .z)))))) (.y 15 (.e 8 (.e 16 (.y 17 (.y 18 (.e 19 .z)))))))) (.y 15 (.e 5 (.y 7 (.e 8 (.e 16 (.y 17 (.y 18 (.e 19 .z))))))))) (.y 7 (.b 1 12 (.b 8 12 (.e 12 (.y 15 (.e 16 (.y 17 (.y 18 (.e 19 .z)))))) (.y 15 (.e 8 (.e 16 (.y 17 (.y 18 (.e 19 .z))))))) (.y 15 (.e 1 (.e 8 (.e 16 (.y 17 (.y 18 (.e 19 .z))))))))) (.y 15 (.b 1 5 (.e 5 (.y 7 (.e 8 (.e 16 (.y 17 (.y 18 (.e 19 .z))))))) (.y 7 (.e 1 (.e 8 (.e 16 (.y 17 (.y 18 (.e 19 .z)))))))))))))))))))) (by kernel_rfl) (fun W hWd => ?_)
    have HWd := hid hWd; clear hWd
    have HB := hid (Only.eq_drew Q.out HWd.out)
    clear HWd
    refine rgn.Walk.ys (v := ?_) rfl rfl rfl ?_ ?_
    rotate_left 1
    · intro W' hW'
      go_simp
      try with_reducible rfl
    try simp only [Act.put, List.setIfInBounds_toArray, List.set_cons_zero, List.set_cons_succ]
    refine rgn.Walk.ys (v := ?_) rfl rfl rfl ?_ ?_
    rotate_left 1
    · intro W' hW'
      go_simp
      try with_reducible rfl
    try simp only [Act.put, List.setIfInBounds_toArray, List.set_cons_zero, List.set_cons_succ]
    refine rgn.Walk.ys (v := ?_) rfl rfl rfl ?_ ?_
    rotate_left 1
    · intro W' hW'
      go_simp
      try with_reducible rfl
    try simp only [Act.put, List.setIfInBounds_toArray, List.set_cons_zero, List.set_cons_succ]
    refine rgn.Walk.ys (v := ?_) rfl rfl rfl ?_ ?_
    rotate_left 1
    · intro W' hW'
      go_simp
      try with_reducible rfl
    try simp only [Act.put, List.setIfInBounds_toArray, List.set_cons_zero, List.set_cons_succ]
    refine rgn.Walk.ys (v := ?_) rfl rfl rfl ?_ ?_
    rotate_left 1
    · intro W' hW'
      go_simp
      try with_reducible rfl
    try simp only [Act.put, List.setIfInBounds_toArray, List.set_cons_zero, List.set_cons_succ]
    refine rgn.Walk.ys (v := ?_) rfl rfl rfl ?_ ?_
    rotate_left 1
    · intro W' hW'
      go_simp
      try with_reducible rfl
    try simp only [Act.put, List.setIfInBounds_toArray, List.set_cons_zero, List.set_cons_succ]
    refine rgn.Walk.ys (v := ?_) rfl rfl rfl ?_ ?_
    rotate_left 1
    · intro W' hW'
      go_simp
      try with_reducible rfl
    try simp only [Act.put, List.setIfInBounds_toArray, List.set_cons_zero, List.set_cons_succ]
    refine rgn.Walk.ys (v := ?_) rfl rfl rfl ?_ ?_
    rotate_left 1
    · intro W' hW'
      go_simp
      try with_reducible rfl
    try simp only [Act.put, List.setIfInBounds_toArray, List.set_cons_zero, List.set_cons_succ]
    refine rgn.Walk.ys (v := ?_) rfl rfl rfl ?_ ?_
    rotate_left 1
    · intro W' hW'
      go_simp
      try with_reducible rfl
    try simp only [Act.put, List.setIfInBounds_toArray, List.set_cons_zero, List.set_cons_succ]
    refine rgn.Walk.ys (v := ?_) rfl rfl rfl ?_ ?_
    rotate_left 1
    · intro W' hW'
      go_simp
      try rw [i64_in _ (by omega)]
      try with_reducible rfl
    try simp only [Act.put, List.setIfInBounds_toArray, List.set_cons_zero, List.set_cons_succ]
    refine rgn.Walk.cs ?_ ?_ ?_
    · refine rgn.stepE rfl rfl (fun K hK => ?_)
      go_simp
      refine hK _ _ (AnyW.any _ _) ?_
      clear hK K
      try simp only [Act.put, List.setIfInBounds_toArray, List.set_cons_zero, List.set_cons_succ]
      have V0 := hid (own_empty _ TR 2 w.heap.size HB.out.size); have HB := hid (HB.out.alloc (.cells #[] TR))
      refine rgn.Walk.bs ?_ ?_
      · refine rgn.stepE rfl rfl (fun K hK => ?_)
        have qq : World.cell? _ ⟨g, 0, none⟩ = some (.slice A n c) := (HO.out.only HB.out (by simp)).cell 0
        go_simp
        refine hK _ _ (AnyW.any _ _) ?_
        clear hK K qq
        try simp only [Act.put, List.setIfInBounds_toArray, List.set_cons_zero, List.set_cons_succ]
        refine rgn.Walk.ys (v := ?_) rfl rfl rfl ?_ ?_
        rotate_left 1
        · intro W' hW'
          have q9 := HSL1.out W'
          go_simp
          try with_reducible rfl
        try simp only [Act.put, List.setIfInBounds_toArray, List.set_cons_zero, List.set_cons_succ]
        refine rgn.Walk.bs ?_ ?_
        · refine rgn.stepE rfl rfl (fun K hK => ?_)
          refine opAppS _ rfl (.tmp 12) (.tmp 18) _ rfl trElem w.heap.size _ 0 [] (by first | rfl | go_simp) V0.out A1 k c1 ((tcs D).take (k * 2)) (by first | rfl | go_simp) (HR1.out.only_nil HB.out) HN1.out HF1.out (by omega) (by unfold maxLen; omega) HB.out.size ?_
          intro v1 w2 hv hg hb
          refine hK _ _ (AnyW.any _ _) ?_
          clear hK K
          try simp only [Act.put, List.setIfInBounds_toArray, List.set_cons_zero, List.set_cons_succ]
          have HB := hid (HB.out.of_grown hg (fun k hk => .inr (V0.out.lt k hk).1)); have V1 : Hid (w2.ownsRow w.heap.size TR 2 v1 k ((tcs D).take (k * 2))) := hid (by simpa using hv); clear hv hg hb V0
          refine rgn.Walk.es ?_
          refine rgn.stepE rfl rfl (fun K hK => ?_)
          have qq : World.cell? _ ⟨g, 0, none⟩ = some (.slice A n c) := (HO.out.only HB.out (by simp)).cell 0
          go_simp
          refine hK _ _ (AnyW.any _ _) ?_
          clear hK K qq
          try simp only [Act.put, List.setIfInBounds_toArray, List.set_cons_zero, List.set_cons_succ]
          refine rgn.Walk.ys (v := ?_) rfl rfl rfl ?_ ?_
          rotate_left 1
          · intro W' hW'
            have q9 := HSL2.out W'
            go_simp
            try with_reducible rfl
          try simp only [Act.put, List.setIfInBounds_toArray, List.set_cons_zero, List.set_cons_succ]
          refine rgn.Walk.es ?_
          refine rgn.stepE rfl rfl (fun K hK => ?_)
          refine opAppS _ rfl (.tmp 19) (.tmp 26) _ rfl trElem w.heap.size _ k _ (by first | rfl | go_simp) V1.out A2 (n - (k + 1)) c2 ((tcs D).drop ((k + 1) * 2)) (by first | rfl | go_simp) (HR2.out.only_nil HB.out) HN2.out HF2.out (by omega) (by unfold maxLen; omega) HB.out.size ?_
          intro v2 w3 hv hg hb
          refine hK _ _ (AnyW.any _ _) ?_
          clear hK K
          try simp only [Act.put, List.setIfInBounds_toArray, List.set_cons_zero, List.set_cons_succ]
          have HB := hid (HB.out.of_grown hg (fun k hk => .inr (V1.out.lt k hk).1)); have V2 := hid hv; clear hv hg hb V1
          refine rgn.Walk.ys (v := ?_) rfl rfl rfl ?_ ?_
          rotate_left 1
          · intro W' hW'
            go_simp
            try with_reducible rfl
          try simp only [Act.put, List.setIfInBounds_toArray, List.set_cons_zero, List.set_cons_succ]
          refine rgn.Walk.ys (v := ?_) rfl rfl rfl ?_ ?_
          rotate_left 1
          · intro W' hW'
            go_simp
            try with_reducible rfl
          try simp only [Act.put, List.setIfInBounds_toArray, List.set_cons_zero, List.set_cons_succ]
          refine rgn.Walk.es ?_
          refine rgn.stepE rfl rfl (fun K hK => ?_)
          have qq : World.cell? _ ⟨g, 0, none⟩ = some (.slice A n c) := (HO.out.only HB.out (by simp)).cell 0
          have ff := (HO.out.only HB.out (by simp)).frozen 0
          obtain ⟨A3, c3, ev3, hc3, hm3, hn3, r3, hb3, hs3⟩ := RdS.of_own V2.out (by intro u hu; simp only [List.mem_append] at hu; rcases hu with hu | hu; exact tcs_one D u (List.mem_of_mem_take hu); exact tcs_one D u (List.mem_of_mem_drop hu))
          have HLo : Hid (∀ b off, A3 = some ⟨b, off, none⟩ → w.heap.size ≤ b ∧ b < w3.heap.size) := hid (fun b off e => V2.out.lt b (hb3 b off e).2)
          have HC3 := hid hc3; have HM3 := hid hm3; have HN3 := hid hn3; have HR3 := hid r3; have HS3 := hid hs3
          clear hc3 hm3 hn3 r3 hb3 hs3
          rw [ev3]
          go_simp
          refine hK _ _ (AnyW.any _ _) ?_
          clear hK K qq ff ev3
          try simp only [Act.put, List.setIfInBounds_toArray, List.set_cons_zero, List.set_cons_succ]
          refine rgn.Walk.zs (NoPanic.normal ?_)
          have HFin : Hid (DNext w g A (rm D key) (w3.setCell ⟨g, 0, none⟩ (.slice A3 (k + (n - (k + 1))) c3))) := hid (by
            have e9 : tcs (rm D key) = (tcs D).take (k * 2) ++ (tcs D).drop ((k + 1) * 2) := by rw [HRM.out, tcs_erase D k HP.out]
            have e8 : (rm D key).length = k + (n - (k + 1)) := by rw [HRM.out, List.length_eraseIdx, if_pos HP.out, HL.out]; have h9 := HP.out; rw [HL.out] at h9; omega
            have hglt : g < w.heap.size := HO.out.lt
            have oo : Only [g] w3 (w3.setCell ⟨g, 0, none⟩ (.slice A3 (k + (n - (k + 1))) c3)) := (Only.refl _ _).setCell (p := ⟨g, 0, none⟩) (.inl (by simp)) _
            have hneg : ∀ b off, A3 = some ⟨b, off, none⟩ → b ≠ g := fun b off e => by have := HLo.out b off e; omega
            refine ⟨A3, c3, ⟨?_, ?_, by rw [e8]; exact HC3.out, HM3.out, HN3.out, HS3.out.elim .inl (fun ⟨b, e⟩ => .inr ⟨b, 0, e⟩), hneg, fun b off e => by have := (HLo.out b off e).2; simpa using this, by rw [e8]; have := HMo.out; omega⟩, fun b off e => .inr (HLo.out b off e).1, (HB.out.more (by simp)).setCell (p := ⟨g, 0, none⟩) (.inl (by simp)) _⟩
            · rw [e8]; exact (HO.out.only HB.out (by simp)).set 0 _
            · rw [e8, e9]; exact HR3.out.only oo (fun b off e _ => by simpa using hneg b off e))
          go_wp2
          go_ret
          exact ⟨rBool HE.out.symm, HFin.out⟩
        · refine rgn.stepE rfl rfl (fun K hK => ?_)
          have qq : World.cell? _ ⟨g, 0, none⟩ = some (.slice A n c) := (HO.out.only HB.out (by simp)).cell 0
          go_simp
          refine hK _ _ (AnyW.any _ _) ?_
          clear hK K qq
          try simp only [Act.put, List.setIfInBounds_toArray, List.set_cons_zero, List.set_cons_succ]
          refine rgn.Walk.ys (v := ?_) rfl rfl rfl ?_ ?_
          rotate_left 1
          · intro W' hW'
            have q9 := HSL2.out W'
            go_simp
            try with_reducible rfl
          try simp only [Act.put, List.setIfInBounds_toArray, List.set_cons_zero, List.set_cons_succ]
          refine rgn.Walk.es ?_
          refine rgn.stepE rfl rfl (fun K hK => ?_)
          refine opAppS _ rfl (.tmp 12) (.tmp 18) _ rfl trElem w.heap.size _ 0 [] (by first | rfl | go_simp) V0.out A1 k c1 ((tcs D).take (k * 2)) (by first | rfl | go_simp) (HR1.out.only_nil HB.out) HN1.out HF1.out (by omega) (by unfold maxLen; omega) HB.out.size ?_
          intro v1 w2 hv hg hb
          refine hK _ _ (AnyW.any _ _) ?_
          clear hK K
          try simp only [Act.put, List.setIfInBounds_toArray, List.set_cons_zero, List.set_cons_succ]
          have HB := hid (HB.out.of_grown hg (fun k hk => .inr (V0.out.lt k hk).1)); have V1 : Hid (w2.ownsRow w.heap.size TR 2 v1 k ((tcs D).take (k * 2))) := hid (by simpa using hv); clear hv hg hb V0
          refine rgn.Walk.es ?_
          refine rgn.stepE rfl rfl (fun K hK => ?_)
          refine opAppS _ rfl (.tmp 19) (.tmp 26) _ rfl trElem w.heap.size _ k _ (by first | rfl | go_simp) V1.out A2 (n - (k + 1)) c2 ((tcs D).drop ((k + 1) * 2)) (by first | rfl | go_simp) (HR2.out.only_nil HB.out) HN2.out HF2.out (by omega) (by unfold maxLen; omega) HB.out.size ?_
          intro v2 w3 hv hg hb
          refine hK _ _ (AnyW.any _ _) ?_
          clear hK K
          try simp only [Act.put, List.setIfInBounds_toArray, List.set_cons_zero, List.set_cons_succ]
          have HB := hid (HB.out.of_grown hg (fun k hk => .inr (V1.out.lt k hk).1)); have V2 := hid hv; clear hv hg hb V1
          refine rgn.Walk.ys (v := ?_) rfl rfl rfl ?_ ?_
          rotate_left 1
          · intro W' hW'
            go_simp
            try with_reducible rfl
          try simp only [Act.put, List.setIfInBounds_toArray, List.set_cons_zero, List.set_cons_succ]
          refine rgn.Walk.ys (v := ?_) rfl rfl rfl ?_ ?_
          rotate_left 1
          · intro W' hW'
            go_simp
            try with_reducible rfl
          try simp only [Act.put, List.setIfInBounds_toArray, List.set_cons_zero, List.set_cons_succ]
          refine rgn.Walk.es ?_
          refine rgn.stepE rfl rfl (fun K hK => ?_)
          have qq : World.cell? _ ⟨g, 0, none⟩ = some (.slice A n c) := (HO.out.only HB.out (by simp)).cell 0
          have ff := (HO.out.only HB.out (by simp)).frozen 0
          obtain ⟨A3, c3, ev3, hc3, hm3, hn3, r3, hb3, hs3⟩ := RdS.of_own V2.out (by intro u hu; simp only [List.mem_append] at hu; rcases hu with hu | hu; exact tcs_one D u (List.mem_of_mem_take hu); exact tcs_one D u (List.mem_of_mem_drop hu))
          have HLo : Hid (∀ b off, A3 = some ⟨b, off, none⟩ → w.heap.size ≤ b ∧ b < w3.heap.size) := hid (fun b off e => V2.out.lt b (hb3 b off e).2)
          have HC3 := hid hc3; have HM3 := hid hm3; have HN3 := hid hn3; have HR3 := hid r3; have HS3 := hid hs3
          clear hc3 hm3 hn3 r3 hb3 hs3
          rw [ev3]
          go_simp
          refine hK _ _ (AnyW.any _ _) ?_
          clear hK K qq ff ev3
          try simp only [Act.put, List.setIfInBounds_toArray, List.set_cons_zero, List.set_cons_succ]
          refine rgn.Walk.zs (NoPanic.normal ?_)
          have HFin : Hid (DNext w g A (rm D key) (w3.setCell ⟨g, 0, none⟩ (.slice A3 (k + (n - (k + 1))) c3))) := hid (by
            have e9 : tcs (rm D key) = (tcs D).take (k * 2) ++ (tcs D).drop ((k + 1) * 2) := by rw [HRM.out, tcs_erase D k HP.out]
            have e8 : (rm D key).length = k + (n - (k + 1)) := by rw [HRM.out, List.length_eraseIdx, if_pos HP.out, HL.out]; have h9 := HP.out; rw [HL.out] at h9; omega
            have hglt : g < w.heap.size := HO.out.lt
            have oo : Only [g] w3 (w3.setCell ⟨g, 0, none⟩ (.slice A3 (k + (n - (k + 1))) c3)) := (Only.refl _ _).setCell (p := ⟨g, 0, none⟩) (.inl (by simp)) _
            have hneg : ∀ b off, A3 = some ⟨b, off, none⟩ → b ≠ g := fun b off e => by have := HLo.out b off e; omega
            refine ⟨A3, c3, ⟨?_, ?_, by rw [e8]; exact HC3.out, HM3.out, HN3.out, HS3.out.elim .inl (fun ⟨b, e⟩ => .inr ⟨b, 0, e⟩), hneg, fun b off e => by have := (HLo.out b off e).2; simpa using this, by rw [e8]; have := HMo.out; omega⟩, fun b off e => .inr (HLo.out b off e).1, (HB.out.more (by simp)).setCell (p := ⟨g, 0, none⟩) (.inl (by simp)) _⟩
            · rw [e8]; exact (HO.out.only HB.out (by simp)).set 0 _
            · rw [e8, e9]; exact HR3.out.only oo (fun b off e _ => by simpa using hneg b off e))
          go_wp2
          go_ret
          exact ⟨rBool HE.out.symm, HFin.out⟩
      · refine rgn.stepE rfl rfl (fun K hK => ?_)
        have qq : World.cell? _ ⟨g, 0, none⟩ = some (.slice A n c) := (HO.out.only HB.out (by simp)).cell 0
        go_simp
        refine hK _ _ (AnyW.any _ _) ?_
        clear hK K qq
        try simp only [Act.put, List.setIfInBounds_toArray, List.set_cons_zero, List.set_cons_succ]
        refine rgn.Walk.ys (v := ?_) rfl rfl rfl ?_ ?_
        rotate_left 1
        · intro W' hW'
          have q9 := HSL2.out W'
          go_simp
          try with_reducible rfl
        try simp only [Act.put, List.setIfInBounds_toArray, List.set_cons_zero, List.set_cons_succ]
        refine rgn.Walk.es ?_
        refine rgn.stepE rfl rfl (fun K hK => ?_)
        have qq : World.cell? _ ⟨g, 0, none⟩ = some (.slice A n c) := (HO.out.only HB.out (by simp)).cell 0
        go_simp
        refine hK _ _ (AnyW.any _ _) ?_
        clear hK K qq
        try simp only [Act.put, List.setIfInBounds_toArray, List.set_cons_zero, List.set_cons_succ]
        refine rgn.Walk.ys (v := ?_) rfl rfl rfl ?_ ?_
        rotate_left 1
        · intro W' hW'
          have q9 := HSL1.out W'
          go_simp
          try with_reducible rfl
        try simp only [Act.put, List.setIfInBounds_toArray, List.set_cons_zero, List.set_cons_succ]
        refine rgn.Walk.es ?_
        refine rgn.stepE rfl rfl (fun K hK => ?_)
        refine opAppS _ rfl (.tmp 12) (.tmp 18) _ rfl trElem w.heap.size _ 0 [] (by first | rfl | go_simp) V0.out A1 k c1 ((tcs D).take (k * 2)) (by first | rfl | go_simp) (HR1.out.only_nil HB.out) HN1.out HF1.out (by omega) (by unfold maxLen; omega) HB.out.size ?_
        intro v1 w2 hv hg hb
        refine hK _ _ (AnyW.any _ _) ?_
        clear hK K
        try simp only [Act.put, List.setIfInBounds_toArray, List.set_cons_zero, List.set_cons_succ]
        have HB := hid (HB.out.of_grown hg (fun k hk => .inr (V0.out.lt k hk).1)); have V1 : Hid (w2.ownsRow w.heap.size TR 2 v1 k ((tcs D).take (k * 2))) := hid (by simpa using hv); clear hv hg hb V0
        refine rgn.Walk.es ?_
        refine rgn.stepE rfl rfl (fun K hK => ?_)
        refine opAppS _ rfl (.tmp 19) (.tmp 26) _ rfl trElem w.heap.size _ k _ (by first | rfl | go_simp) V1.out A2 (n - (k + 1)) c2 ((tcs D).drop ((k + 1) * 2)) (by first | rfl | go_simp) (HR2.out.only_nil HB.out) HN2.out HF2.out (by omega) (by unfold maxLen; omega) HB.out.size ?_
        intro v2 w3 hv hg hb
        refine hK _ _ (AnyW.any _ _) ?_
        clear hK K
        try simp only [Act.put, List.setIfInBounds_toArray, List.set_cons_zero, List.set_cons_succ]
        have HB := hid (HB.out.of_grown hg (fun k hk => .inr (V1.out.lt k hk).1)); have V2 := hid hv; clear hv hg hb V1
        refine rgn.Walk.ys (v := ?_) rfl rfl rfl ?_ ?_
        rotate_left 1
        · intro W' hW'
          go_simp
          try with_reducible rfl
        try simp only [Act.put, List.setIfInBounds_toArray, List.set_cons_zero, List.set_cons_succ]
        refine rgn.Walk.ys (v := ?_) rfl rfl rfl ?_ ?_
        rotate_left 1
        · intro W' hW'
          go_simp
          try with_reducible rfl
        try simp only [Act.put, List.setIfInBounds_toArray, List.set_cons_zero, List.set_cons_succ]
        refine rgn.Walk.es ?_
        refine rgn.stepE rfl rfl (fun K hK => ?_)
        have qq : World.cell? _ ⟨g, 0, none⟩ = some (.slice A n c) := (HO.out.only HB.out (by simp)).cell 0
        have ff := (HO.out.only HB.out (by simp)).frozen 0
        obtain ⟨A3, c3, ev3, hc3, hm3, hn3, r3, hb3, hs3⟩ := RdS.of_own V2.out (by intro u hu; simp only [List.mem_append] at hu; rcases hu with hu | hu; exact tcs_one D u (List.mem_of_mem_take hu); exact tcs_one D u (List.mem_of_mem_drop hu))
        have HLo : Hid (∀ b off, A3 = some ⟨b, off, none⟩ → w.heap.size ≤ b ∧ b < w3.heap.size) := hid (fun b off e => V2.out.lt b (hb3 b off e).2)
        have HC3 := hid hc3; have HM3 := hid hm3; have HN3 := hid hn3; have HR3 := hid r3; have HS3 := hid hs3
        clear hc3 hm3 hn3 r3 hb3 hs3
        rw [ev3]
        go_simp
        refine hK _ _ (AnyW.any _ _) ?_
        clear hK K qq ff ev3
        try simp only [Act.put, List.setIfInBounds_toArray, List.set_cons_zero, List.set_cons_succ]
        refine rgn.Walk.zs (NoPanic.normal ?_)
        have HFin : Hid (DNext w g A (rm D key) (w3.setCell ⟨g, 0, none⟩ (.slice A3 (k + (n - (k + 1))) c3))) := hid (by
          have e9 : tcs (rm D key) = (tcs D).take (k * 2) ++ (tcs D).drop ((k + 1) * 2) := by rw [HRM.out, tcs_erase D k HP.out]
          have e8 : (rm D key).length = k + (n - (k + 1)) := by rw [HRM.out, List.length_eraseIdx, if_pos HP.out, HL.out]; have h9 := HP.out; rw [HL.out] at h9; omega
          have hglt : g < w.heap.size := HO.out.lt
          have oo : Only [g] w3 (w3.setCell ⟨g, 0, none⟩ (.slice A3 (k + (n - (k + 1))) c3)) := (Only.refl _ _).setCell (p := ⟨g, 0, none⟩) (.inl (by simp)) _
          have hneg : ∀ b off, A3 = some ⟨b, off, none⟩ → b ≠ g := fun b off e => by have := HLo.out b off e; omega
          refine ⟨A3, c3, ⟨?_, ?_, by rw [e8]; exact HC3.out, HM3.out, HN3.out, HS3.out.elim .inl (fun ⟨b, e⟩ => .inr ⟨b, 0, e⟩), hneg, fun b off e => by have := (HLo.out b off e).2; simpa using this, by rw [e8]; have := HMo.out; omega⟩, fun b off e => .inr (HLo.out b off e).1, (HB.out.more (by simp)).setCell (p := ⟨g, 0, none⟩) (.inl (by simp)) _⟩
          · rw [e8]; exact (HO.out.only HB.out (by simp)).set 0 _
          · rw [e8, e9]; exact HR3.out.only oo (fun b off e _ => by simpa using hneg b off e))
        go_wp2
        go_ret
        exact ⟨rBool HE.out.symm, HFin.out⟩
    · refine rgn.stepE rfl rfl (fun K hK => ?_)
      have qq : World.cell? _ ⟨g, 0, none⟩ = some (.slice A n c) := (HO.out.only HB.out (by simp)).cell 0
      go_simp
      refine hK _ _ (AnyW.any _ _) ?_
      clear hK K qq
      try simp only [Act.put, List.setIfInBounds_toArray, List.set_cons_zero, List.set_cons_succ]
      refine rgn.Walk.ys (v := ?_) rfl rfl rfl ?_ ?_
      rotate_left 1
      · intro W' hW'
        have q9 := HSL1.out W'
        go_simp
        try with_reducible rfl
      try simp only [Act.put, List.setIfInBounds_toArray, List.set_cons_zero, List.set_cons_succ]
      refine rgn.Walk.bs ?_ ?_
      · refine rgn.stepE rfl rfl (fun K hK => ?_)
        go_simp
        refine hK _ _ (AnyW.any _ _) ?_
        clear hK K
        try simp only [Act.put, List.setIfInBounds_toArray, List.set_cons_zero, List.set_cons_succ]
        have V0 := hid (own_empty _ TR 2 w.heap.size HB.out.size); have HB := hid (HB.out.alloc (.cells #[] TR))
        refine rgn.Walk.bs ?_ ?_
        · refine rgn.stepE rfl rfl (fun K hK => ?_)
          refine opAppS _ rfl (.tmp 12) (.tmp 18) _ rfl trElem w.heap.size _ 0 [] (by first | rfl | go_simp) V0.out A1 k c1 ((tcs D).take (k * 2)) (by first | rfl | go_simp) (HR1.out.only_nil HB.out) HN1.out HF1.out (by omega) (by unfold maxLen; omega) HB.out.size ?_
          intro v1 w2 hv hg hb
          refine hK _ _ (AnyW.any _ _) ?_
          clear hK K
          try simp only [Act.put, List.setIfInBounds_toArray, List.set_cons_zero, List.set_cons_succ]
          have HB := hid (HB.out.of_grown hg (fun k hk => .inr (V0.out.lt k hk).1)); have V1 : Hid (w2.ownsRow w.heap.size TR 2 v1 k ((tcs D).take (k * 2))) := hid (by simpa using hv); clear hv hg hb V0
          refine rgn.Walk.es ?_
          refine rgn.stepE rfl rfl (fun K hK => ?_)
          have qq : World.cell? _ ⟨g, 0, none⟩ = some (.slice A n c) := (HO.out.only HB.out (by simp)).cell 0
          go_simp
          refine hK _ _ (AnyW.any _ _) ?_
          clear hK K qq
          try simp only [Act.put, List.setIfInBounds_toArray, List.set_cons_zero, List.set_cons_succ]
          refine rgn.Walk.ys (v := ?_) rfl rfl rfl ?_ ?_
          rotate_left 1
          · intro W' hW'
            have q9 := HSL2.out W'
            go_simp
            try with_reducible rfl
          try simp only [Act.put, List.setIfInBounds_toArray, List.set_cons_zero, List.set_cons_succ]
          refine rgn.Walk.es ?_
          refine rgn.stepE rfl rfl (fun K hK => ?_)
          refine opAppS _ rfl (.tmp 19) (.tmp 26) _ rfl trElem w.heap.size _ k _ (by first | rfl | go_simp) V1.out A2 (n - (k + 1)) c2 ((tcs D).drop ((k + 1) * 2)) (by first | rfl | go_simp) (HR2.out.only_nil HB.out) HN2.out HF2.out (by omega) (by unfold maxLen; omega) HB.out.size ?_
          intro v2 w3 hv hg hb
          refine hK _ _ (AnyW.any _ _) ?_
          clear hK K
          try simp only [Act.put, List.setIfInBounds_toArray, List.set_cons_zero, List.set_cons_succ]
          have HB := hid (HB.out.of_grown hg (fun k hk => .inr (V1.out.lt k hk).1)); have V2 := hid hv; clear hv hg hb V1
          refine rgn.Walk.ys (v := ?_) rfl rfl rfl ?_ ?_
          rotate_left 1
          · intro W' hW'
            go_simp
            try with_reducible rfl
          try simp only [Act.put, List.setIfInBounds_toArray, List.set_cons_zero, List.set_cons_succ]
          refine rgn.Walk.ys (v := ?_) rfl rfl rfl ?_ ?_
          rotate_left 1
          · intro W' hW'
            go_simp
            try with_reducible rfl
          try simp only [Act.put, List.setIfInBounds_toArray, List.set_cons_zero, List.set_cons_succ]
          refine rgn.Walk.es ?_
          refine rgn.stepE rfl rfl (fun K hK => ?_)
          have qq : World.cell? _ ⟨g, 0, none⟩ = some (.slice A n c) := (HO.out.only HB.out (by simp)).cell 0
          have ff := (HO.out.only HB.out (by simp)).frozen 0
          obtain ⟨A3, c3, ev3, hc3, hm3, hn3, r3, hb3, hs3⟩ := RdS.of_own V2.out (by intro u hu; simp only [List.mem_append] at hu; rcases hu with hu | hu; exact tcs_one D u (List.mem_of_mem_take hu); exact tcs_one D u (List.mem_of_mem_drop hu))
          have HLo : Hid (∀ b off, A3 = some ⟨b, off, none⟩ → w.heap.size ≤ b ∧ b < w3.heap.size) := hid (fun b off e => V2.out.lt b (hb3 b off e).2)
          have HC3 := hid hc3; have HM3 := hid hm3; have HN3 := hid hn3; have HR3 := hid r3; have HS3 := hid hs3
          clear hc3 hm3 hn3 r3 hb3 hs3
          rw [ev3]
          go_simp
          refine hK _ _ (AnyW.any _ _) ?_
          clear hK K qq ff ev3
          try simp only [Act.put, List.setIfInBounds_toArray, List.set_cons_zero, List.set_cons_succ]
          refine rgn.Walk.zs (NoPanic.normal ?_)
          have HFin : Hid (DNext w g A (rm D key) (w3.setCell ⟨g, 0, none⟩ (.slice A3 (k + (n - (k + 1))) c3))) := hid (by
            have e9 : tcs (rm D key) = (tcs D).take (k * 2) ++ (tcs D).drop ((k + 1) * 2) := by rw [HRM.out, tcs_erase D k HP.out]
            have e8 : (rm D key).length = k + (n - (k + 1)) := by rw [HRM.out, List.length_eraseIdx, if_pos HP.out, HL.out]; have h9 := HP.out; rw [HL.out] at h9; omega
            have hglt : g < w.heap.size := HO.out.lt
            have oo : Only [g] w3 (w3.setCell ⟨g, 0, none⟩ (.slice A3 (k + (n - (k + 1))) c3)) := (Only.refl _ _).setCell (p := ⟨g, 0, none⟩) (.inl (by simp)) _
            have hneg : ∀ b off, A3 = some ⟨b, off, none⟩ → b ≠ g := fun b off e => by have := HLo.out b off e; omega
            refine ⟨A3, c3, ⟨?_, ?_, by rw [e8]; exact HC3.out, HM3.out, HN3.out, HS3.out.elim .inl (fun ⟨b, e⟩ => .inr ⟨b, 0, e⟩), hneg, fun b off e => by have := (HLo.out b off e).2; simpa using this, by rw [e8]; have := HMo.out; omega⟩, fun b off e => .inr (HLo.out b off e).1, (HB.out.more (by simp)).setCell (p := ⟨g, 0, none⟩) (.inl (by simp)) _⟩
            · rw [e8]; exact (HO.out.only HB.out (by simp)).set 0 _
            · rw [e8, e9]; exact HR3.out.only oo (fun b off e _ => by simpa using hneg b off e))
          go_wp2
          go_ret
          exact ⟨rBool HE.out.symm, HFin.out⟩
        · refine rgn.stepE rfl rfl (fun K hK => ?_)
          have qq : World.cell? _ ⟨g, 0, none⟩ = some (.slice A n c) := (HO.out.only HB.out (by simp)).cell 0
          go_simp
          refine hK _ _ (AnyW.any _ _) ?_
          clear hK K qq
          try simp only [Act.put, List.setIfInBounds_toArray, List.set_cons_zero, List.set_cons_succ]
          refine rgn.Walk.ys (v := ?_) rfl rfl rfl ?_ ?_
          rotate_left 1
          · intro W' hW'
            have q9 := HSL2.out W'
            go_simp
            try with_reducible rfl
          try simp only [Act.put, List.setIfInBounds_toArray, List.set_cons_zero, List.set_cons_succ]
          refine rgn.Walk.es ?_
          refine rgn.stepE rfl rfl (fun K hK => ?_)
          refine opAppS _ rfl (.tmp 12) (.tmp 18) _ rfl trElem w.heap.size _ 0 [] (by first | rfl | go_simp) V0.out A1 k c1 ((tcs D).take (k * 2)) (by first | rfl | go_simp) (HR1.out.only_nil HB.out) HN1.out HF1.out (by omega) (by unfold maxLen; omega) HB.out.size ?_
          intro v1 w2 hv hg hb
          refine hK _ _ (AnyW.any _ _) ?_
          clear hK K
          try simp only [Act.put, List.setIfInBounds_toArray, List.set_cons_zero, List.set_cons_succ]
          have HB := hid (HB.out.of_grown hg (fun k hk => .inr (V0.out.lt k hk).1)); have V1 : Hid (w2.ownsRow w.heap.size TR 2 v1 k ((tcs D).take (k * 2))) := hid (by simpa using hv); clear hv hg hb V0
          refine rgn.Walk.es ?_
          refine rgn.stepE rfl rfl (fun K hK => ?_)
          refine opAppS _ rfl (.tmp 19) (.tmp 26) _ rfl trElem w.heap.size _ k _ (by first | rfl | go_simp) V1.out A2 (n - (k + 1)) c2 ((tcs D).drop ((k + 1) * 2)) (by first | rfl | go_simp) (HR2.out.only_nil HB.out) HN2.out HF2.out (by omega) (by unfold maxLen; omega) HB.out.size ?_
          intro v2 w3 hv hg hb
          refine hK _ _ (AnyW.any _ _) ?_
          clear hK K
          try simp only [Act.put, List.setIfInBounds_toArray, List.set_cons_zero, List.set_cons_succ]
          have HB := hid (HB.out.of_grown hg (fun k hk => .inr (V1.out.lt k hk).1)); have V2 := hid hv; clear hv hg hb V1
          refine rgn.Walk.ys (v := ?_) rfl rfl rfl ?_ ?_
          rotate_left 1
          · intro W' hW'
            go_simp
            try with_reducible rfl
          try simp only [Act.put, List.setIfInBounds_toArray, List.set_cons_zero, List.set_cons_succ]
          refine rgn.Walk.ys (v := ?_) rfl rfl rfl ?_ ?_
          rotate_left 1
          · intro W' hW'
            go_simp
            try with_reducible rfl
          try simp only [Act.put, List.setIfInBounds_toArray, List.set_cons_zero, List.set_cons_succ]
          refine rgn.Walk.es ?_
          refine rgn.stepE rfl rfl (fun K hK => ?_)
          have qq : World.cell? _ ⟨g, 0, none⟩ = some (.slice A n c) := (HO.out.only HB.out (by simp)).cell 0
          have ff := (HO.out.only HB.out (by simp)).frozen 0
          obtain ⟨A3, c3, ev3, hc3, hm3, hn3, r3, hb3, hs3⟩ := RdS.of_own V2.out (by intro u hu; simp only [List.mem_append] at hu; rcases hu with hu | hu; exact tcs_one D u (List.mem_of_mem_take hu); exact tcs_one D u (List.mem_of_mem_drop hu))
          have HLo : Hid (∀ b off, A3 = some ⟨b, off, none⟩ → w.heap.size ≤ b ∧ b < w3.heap.size) := hid (fun b off e => V2.out.lt b (hb3 b off e).2)
          have HC3 := hid hc3; have HM3 := hid hm3; have HN3 := hid hn3; have HR3 := hid r3; have HS3 := hid hs3
          clear hc3 hm3 hn3 r3 hb3 hs3
          rw [ev3]
          go_simp
          refine hK _ _ (AnyW.any _ _) ?_
          clear hK K qq ff ev3
          try simp only [Act.put, List.setIfInBounds_toArray, List.set_cons_zero, List.set_cons_succ]
          refine rgn.Walk.zs (NoPanic.normal ?_)
          have HFin : Hid (DNext w g A (rm D key) (w3.setCell ⟨g, 0, none⟩ (.slice A3 (k + (n - (k + 1))) c3))) := hid (by
            have e9 : tcs (rm D key) = (tcs D).take (k * 2) ++ (tcs D).drop ((k + 1) * 2) := by rw [HRM.out, tcs_erase D k HP.out]
            have e8 : (rm D key).length = k + (n - (k + 1)) := by rw [HRM.out, List.length_eraseIdx, if_pos HP.out, HL.out]; have h9 := HP.out; rw [HL.out] at h9; omega
            have hglt : g < w.heap.size := HO.out.lt
            have oo : Only [g] w3 (w3.setCell ⟨g, 0, none⟩ (.slice A3 (k + (n - (k + 1))) c3)) := (Only.refl _ _).setCell (p := ⟨g, 0, none⟩) (.inl (by simp)) _
            have hneg : ∀ b off, A3 = some ⟨b, off, none⟩ → b ≠ g := fun b off e => by have := HLo.out b off e; omega
            refine ⟨A3, c3, ⟨?_, ?_, by rw [e8]; exact HC3.out, HM3.out, HN3.out, HS3.out.elim .inl (fun ⟨b, e⟩ => .inr ⟨b, 0, e⟩), hneg, fun b off e => by have := (HLo.out b off e).2; simpa using this, by rw [e8]; have := HMo.out; omega⟩, fun b off e => .inr (HLo.out b off e).1, (HB.out.more (by simp)).setCell (p := ⟨g, 0, none⟩) (.inl (by simp)) _⟩
            · rw [e8]; exact (HO.out.only HB.out (by simp)).set 0 _
            · rw [e8, e9]; exact HR3.out.only oo (fun b off e _ => by simpa using hneg b off e))
          go_wp2
          go_ret
          exact ⟨rBool HE.out.symm, HFin.out⟩
      · refine rgn.stepE rfl rfl (fun K hK => ?_)
        have qq : World.cell? _ ⟨g, 0, none⟩ = some (.slice A n c) := (HO.out.only HB.out (by simp)).cell 0
        go_simp
        refine hK _ _ (AnyW.any _ _) ?_
        clear hK K qq
        try simp only [Act.put, List.setIfInBounds_toArray, List.set_cons_zero, List.set_cons_succ]
        refine rgn.Walk.ys (v := ?_) rfl rfl rfl ?_ ?_
        rotate_left 1
        · intro W' hW'
          have q9 := HSL2.out W'
          go_simp
          try with_reducible rfl
        try simp only [Act.put, List.setIfInBounds_toArray, List.set_cons_zero, List.set_cons_succ]
        refine rgn.Walk.es ?_
        refine rgn.stepE rfl rfl (fun K hK => ?_)
        go_simp
        refine hK _ _ (AnyW.any _ _) ?_
        clear hK K
        try simp only [Act.put, List.setIfInBounds_toArray, List.set_cons_zero, List.set_cons_succ]
        have V0 := hid (own_empty _ TR 2 w.heap.size HB.out.size); have HB := hid (HB.out.alloc (.cells #[] TR))
        refine rgn.Walk.es ?_
        refine rgn.stepE rfl rfl (fun K hK => ?_)
        refine opAppS _ rfl (.tmp 12) (.tmp 18) _ rfl trElem w.heap.size _ 0 [] (by first | rfl | go_simp) V0.out A1 k c1 ((tcs D).take (k * 2)) (by first | rfl | go_simp) (HR1.out.only_nil HB.out) HN1.out HF1.out (by omega) (by unfold maxLen; omega) HB.out.size ?_
        intro v1 w2 hv hg hb
        refine hK _ _ (AnyW.any _ _) ?_
        clear hK K
        try simp only [Act.put, List.setIfInBounds_toArray, List.set_cons_zero, List.set_cons_succ]
        have HB := hid (HB.out.of_grown hg (fun k hk => .inr (V0.out.lt k hk).1)); have V1 : Hid (w2.ownsRow w.heap.size TR 2 v1 k ((tcs D).take (k * 2))) := hid (by simpa using hv); clear hv hg hb V0
        refine rgn.Walk.es ?_
        refine rgn.stepE rfl rfl (fun K hK => ?_)
        refine opAppS _ rfl (.tmp 19) (.tmp 26) _ rfl trElem w.heap.size _ k _ (by first | rfl | go_simp) V1.out A2 (n - (k + 1)) c2 ((tcs D).drop ((k + 1) * 2)) (by first | rfl | go_simp) (HR2.out.only_nil HB.out) HN2.out HF2.out (by omega) (by unfold maxLen; omega) HB.out.size ?_
        intro v2 w3 hv hg hb
        refine hK _ _ (AnyW.any _ _) ?_
        clear hK K
        try simp only [Act.put, List.setIfInBounds_toArray, List.set_cons_zero, List.set_cons_succ]
        have HB := hid (HB.out.of_grown hg (fun k hk => .inr (V1.out.lt k hk).1)); have V2 := hid hv; clear hv hg hb V1
        refine rgn.Walk.ys (v := ?_) rfl rfl rfl ?_ ?_
        rotate_left 1
        · intro W' hW'
          go_simp
          try with_reducible rfl
        try simp only [Act.put, List.setIfInBounds_toArray, List.set_cons_zero, List.set_cons_succ]
        refine rgn.Walk.ys (v := ?_) rfl rfl rfl ?_ ?_
        rotate_left 1
        · intro W' hW'
          go_simp
          try with_reducible rfl
        try simp only [Act.put, List.setIfInBounds_toArray, List.set_cons_zero, List.set_cons_succ]
        refine rgn.Walk.es ?_
        refine rgn.stepE rfl rfl (fun K hK => ?_)
        have qq : World.cell? _ ⟨g, 0, none⟩ = some (.slice A n c) := (HO.out.only HB.out (by simp)).cell 0
        have ff := (HO.out.only HB.out (by simp)).frozen 0
        obtain ⟨A3, c3, ev3, hc3, hm3, hn3, r3, hb3, hs3⟩ := RdS.of_own V2.out (by intro u hu; simp only [List.mem_append] at hu; rcases hu with hu | hu; exact tcs_one D u (List.mem_of_mem_take hu); exact tcs_one D u (List.mem_of_mem_drop hu))
        have HLo : Hid (∀ b off, A3 = some ⟨b, off, none⟩ → w.heap.size ≤ b ∧ b < w3.heap.size) := hid (fun b off e => V2.out.lt b (hb3 b off e).2)
        have HC3 := hid hc3; have HM3 := hid hm3; have HN3 := hid hn3; have HR3 := hid r3; have HS3 := hid hs3
        clear hc3 hm3 hn3 r3 hb3 hs3
        rw [ev3]
        go_simp
        refine hK _ _ (AnyW.any _ _) ?_
        clear hK K qq ff ev3
        try simp only [Act.put, List.setIfInBounds_toArray, List.set_cons_zero, List.set_cons_succ]
        refine rgn.Walk.zs (NoPanic.normal ?_)
        have HFin : Hid (DNext w g A (rm D key) (w3.setCell ⟨g, 0, none⟩ (.slice A3 (k + (n - (k + 1))) c3))) := hid (by
          have e9 : tcs (rm D key) = (tcs D).take (k * 2) ++ (tcs D).drop ((k + 1) * 2) := by rw [HRM.out, tcs_erase D k HP.out]
          have e8 : (rm D key).length = k + (n - (k + 1)) := by rw [HRM.out, List.length_eraseIdx, if_pos HP.out, HL.out]; have h9 := HP.out; rw [HL.out] at h9; omega
          have hglt : g < w.heap.size := HO.out.lt
          have oo : Only [g] w3 (w3.setCell ⟨g, 0, none⟩ (.slice A3 (k + (n - (k + 1))) c3)) := (Only.refl _ _).setCell (p := ⟨g, 0, none⟩) (.inl (by simp)) _
          have hneg : ∀ b off, A3 = some ⟨b, off, none⟩ → b ≠ g := fun b off e => by have := HLo.out b off e; omega
          refine ⟨A3, c3, ⟨?_, ?_, by rw [e8]; exact HC3.out, HM3.out, HN3.out, HS3.out.elim .inl (fun ⟨b, e⟩ => .inr ⟨b, 0, e⟩), hneg, fun b off e => by have := (HLo.out b off e).2; simpa using this, by rw [e8]; have := HMo.out; omega⟩, fun b off e => .inr (HLo.out b off e).1, (HB.out.more (by simp)).setCell (p := ⟨g, 0, none⟩) (.inl (by simp)) _⟩
          · rw [e8]; exact (HO.out.only HB.out (by simp)).set 0 _
          · rw [e8, e9]; exact HR3.out.only oo (fun b off e _ => by simpa using hneg b off e))
        go_wp2
        go_ret
        exact ⟨rBool HE.out.symm, HFin.out⟩
    · refine rgn.stepE rfl rfl (fun K hK => ?_)
      have qq : World.cell? _ ⟨g, 0, none⟩ = some (.slice A n c) := (HO.out.only HB.out (by simp)).cell 0
      go_simp
      refine hK _ _ (AnyW.any _ _) ?_
      clear hK K qq
      try simp only [Act.put, List.setIfInBounds_toArray, List.set_cons_zero, List.set_cons_succ]
      refine rgn.Walk.ys (v := ?_) rfl rfl rfl ?_ ?_
      rotate_left 1
      · intro W' hW'
        have q9 := HSL2.out W'
        go_simp
        try with_reducible rfl
      try simp only [Act.put, List.setIfInBounds_toArray, List.set_cons_zero, List.set_cons_succ]
      refine rgn.Walk.bs ?_ ?_
      · refine rgn.stepE rfl rfl (fun K hK => ?_)
        go_simp
        refine hK _ _ (AnyW.any _ _) ?_
        clear hK K
        try simp only [Act.put, List.setIfInBounds_toArray, List.set_cons_zero, List.set_cons_succ]
        have V0 := hid (own_empty _ TR 2 w.heap.size HB.out.size); have HB := hid (HB.out.alloc (.cells #[] TR))
        refine rgn.Walk.es ?_
        refine rgn.stepE rfl rfl (fun K hK => ?_)
        have qq : World.cell? _ ⟨g, 0, none⟩ = some (.slice A n c) := (HO.out.only HB.out (by simp)).cell 0
        go_simp
        refine hK _ _ (AnyW.any _ _) ?_
        clear hK K qq
        try simp only [Act.put, List.setIfInBounds_toArray, List.set_cons_zero, List.set_cons_succ]
        refine rgn.Walk.ys (v := ?_) rfl rfl rfl ?_ ?_
        rotate_left 1
        · intro W' hW'
          have q9 := HSL1.out W'
          go_simp
          try with_reducible rfl
        try simp only [Act.put, List.setIfInBounds_toArray, List.set_cons_zero, List.set_cons_succ]
        refine rgn.Walk.es ?_
        refine rgn.stepE rfl rfl (fun K hK => ?_)
        refine opAppS _ rfl (.tmp 12) (.tmp 18) _ rfl trElem w.heap.size _ 0 [] (by first | rfl | go_simp) V0.out A1 k c1 ((tcs D).take (k * 2)) (by first | rfl | go_simp) (HR1.out.only_nil HB.out) HN1.out HF1.out (by omega) (by unfold maxLen; omega) HB.out.size ?_
        intro v1 w2 hv hg hb
        refine hK _ _ (AnyW.any _ _) ?_
        clear hK K
        try simp only [Act.put, List.setIfInBounds_toArray, List.set_cons_zero, List.set_cons_succ]
        have HB := hid (HB.out.of_grown hg (fun k hk => .inr (V0.out.lt k hk).1)); have V1 : Hid (w2.ownsRow w.heap.size TR 2 v1 k ((tcs D).take (k * 2))) := hid (by simpa using hv); clear hv hg hb V0
        refine rgn.Walk.es ?_
        refine rgn.stepE rfl rfl (fun K hK => ?_)
        refine opAppS _ rfl (.tmp 19) (.tmp 26) _ rfl trElem w.heap.size _ k _ (by first | rfl | go_simp) V1.out A2 (n - (k + 1)) c2 ((tcs D).drop ((k + 1) * 2)) (by first | rfl | go_simp) (HR2.out.only_nil HB.out) HN2.out HF2.out (by omega) (by unfold maxLen; omega) HB.out.size ?_
        intro v2 w3 hv hg hb
        refine hK _ _ (AnyW.any _ _) ?_
        clear hK K
        try simp only [Act.put, List.setIfInBounds_toArray, List.set_cons_zero, List.set_cons_succ]
        have HB := hid (HB.out.of_grown hg (fun k hk => .inr (V1.out.lt k hk).1)); have V2 := hid hv; clear hv hg hb V1
        refine rgn.Walk.ys (v := ?_) rfl rfl rfl ?_ ?_
        rotate_left 1
        · intro W' hW'
          go_simp
          try with_reducible rfl
        try simp only [Act.put, List.setIfInBounds_toArray, List.set_cons_zero, List.set_cons_succ]
        refine rgn.Walk.ys (v := ?_) rfl rfl rfl ?_ ?_
        rotate_left 1
        · intro W' hW'
          go_simp
          try with_reducible rfl
        try simp only [Act.put, List.setIfInBounds_toArray, List.set_cons_zero, List.set_cons_succ]
        refine rgn.Walk.es ?_
        refine rgn.stepE rfl rfl (fun K hK => ?_)
        have qq : World.cell? _ ⟨g, 0, none⟩ = some (.slice A n c) := (HO.out.only HB.out (by simp)).cell 0
        have ff := (HO.out.only HB.out (by simp)).frozen 0
        obtain ⟨A3, c3, ev3, hc3, hm3, hn3, r3, hb3, hs3⟩ := RdS.of_own V2.out (by intro u hu; simp only [List.mem_append] at hu; rcases hu with hu | hu; exact tcs_one D u (List.mem_of_mem_take hu); exact tcs_one D u (List.mem_of_mem_drop hu))
        have HLo : Hid (∀ b off, A3 = some ⟨b, off, none⟩ → w.heap.size ≤ b ∧ b < w3.heap.size) := hid (fun b off e => V2.out.lt b (hb3 b off e).2)
        have HC3 := hid hc3; have HM3 := hid hm3; have HN3 := hid hn3; have HR3 := hid r3; have HS3 := hid hs3
        clear hc3 hm3 hn3 r3 hb3 hs3
        rw [ev3]
        go_simp
        refine hK _ _ (AnyW.any _ _) ?_
        clear hK K qq ff ev3
        try simp only [Act.put, List.setIfInBounds_toArray, List.set_cons_zero, List.set_cons_succ]
        refine rgn.Walk.zs (NoPanic.normal ?_)
        have HFin : Hid (DNext w g A (rm D key) (w3.setCell ⟨g, 0, none⟩ (.slice A3 (k + (n - (k + 1))) c3))) := hid (by
          have e9 : tcs (rm D key) = (tcs D).take (k * 2) ++ (tcs D).drop ((k + 1) * 2) := by rw [HRM.out, tcs_erase D k HP.out]
          have e8 : (rm D key).length = k + (n - (k + 1)) := by rw [HRM.out, List.length_eraseIdx, if_pos HP.out, HL.out]; have h9 := HP.out; rw [HL.out] at h9; omega
          have hglt : g < w.heap.size := HO.out.lt
          have oo : Only [g] w3 (w3.setCell ⟨g, 0, none⟩ (.slice A3 (k + (n - (k + 1))) c3)) := (Only.refl _ _).setCell (p := ⟨g, 0, none⟩) (.inl (by simp)) _
          have hneg : ∀ b off, A3 = some ⟨b, off, none⟩ → b ≠ g := fun b off e => by have := HLo.out b off e; omega
          refine ⟨A3, c3, ⟨?_, ?_, by rw [e8]; exact HC3.out, HM3.out, HN3.out, HS3.out.elim .inl (fun ⟨b, e⟩ => .inr ⟨b, 0, e⟩), hneg, fun b off e => by have := (HLo.out b off e).2; simpa using this, by rw [e8]; have := HMo.out; omega⟩, fun b off e => .inr (HLo.out b off e).1, (HB.out.more (by simp)).setCell (p := ⟨g, 0, none⟩) (.inl (by simp)) _⟩
          · rw [e8]; exact (HO.out.only HB.out (by simp)).set 0 _
          · rw [e8, e9]; exact HR3.out.only oo (fun b off e _ => by simpa using hneg b off e))
        go_wp2
        go_ret
        exact ⟨rBool HE.out.symm, HFin.out⟩
      · refine rgn.stepE rfl rfl (fun K hK => ?_)
        have qq : World.cell? _ ⟨g, 0, none⟩ = some (.slice A n c) := (HO.out.only HB.out (by simp)).cell 0
        go_simp
        refine hK _ _ (AnyW.any _ _) ?_
        clear hK K qq
        try simp only [Act.put, List.setIfInBounds_toArray, List.set_cons_zero, List.set_cons_succ]
        refine rgn.Walk.ys (v := ?_) rfl rfl rfl ?_ ?_
        rotate_left 1
        · intro W' hW'
          have q9 := HSL1.out W'
          go_simp
          try with_reducible rfl
        try simp only [Act.put, List.setIfInBounds_toArray, List.set_cons_zero, List.set_cons_succ]
        refine rgn.Walk.es ?_
        refine rgn.stepE rfl rfl (fun K hK => ?_)
        go_simp
        refine hK _ _ (AnyW.any _ _) ?_
        clear hK K
        try simp only [Act.put, List.setIfInBounds_toArray, List.set_cons_zero, List.set_cons_succ]
        have V0 := hid (own_empty _ TR 2 w.heap.size HB.out.size); have HB := hid (HB.out.alloc (.cells #[] TR))
        refine rgn.Walk.es ?_
        refine rgn.stepE rfl rfl (fun K hK => ?_)
        refine opAppS _ rfl (.tmp 12) (.tmp 18) _ rfl trElem w.heap.size _ 0 [] (by first | rfl | go_simp) V0.out A1 k c1 ((tcs D).take (k * 2)) (by first | rfl | go_simp) (HR1.out.only_nil HB.out) HN1.out HF1.out (by omega) (by unfold maxLen; omega) HB.out.size ?_
        intro v1 w2 hv hg hb
        refine hK _ _ (AnyW.any _ _) ?_
        clear hK K
        try simp only [Act.put, List.setIfInBounds_toArray, List.set_cons_zero, List.set_cons_succ]
        have HB := hid (HB.out.of_grown hg (fun k hk => .inr (V0.out.lt k hk).1)); have V1 : Hid (w2.ownsRow w.heap.size TR 2 v1 k ((tcs D).take (k * 2))) := hid (by simpa using hv); clear hv hg hb V0
        refine rgn.Walk.es ?_
        refine rgn.stepE rfl rfl (fun K hK => ?_)
        refine opAppS _ rfl (.tmp 19) (.tmp 26) _ rfl trElem w.heap.size _ k _ (by first | rfl | go_simp) V1.out A2 (n - (k + 1)) c2 ((tcs D).drop ((k + 1) * 2)) (by first | rfl | go_simp) (HR2.out.only_nil HB.out) HN2.out HF2.out (by omega) (by unfold maxLen; omega) HB.out.size ?_
        intro v2 w3 hv hg hb
        refine hK _ _ (AnyW.any _ _) ?_
        clear hK K
        try simp only [Act.put, List.setIfInBounds_toArray, List.set_cons_zero, List.set_cons_succ]
        have HB := hid (HB.out.of_grown hg (fun k hk => .inr (V1.out.lt k hk).1)); have V2 := hid hv; clear hv hg hb V1
        refine rgn.Walk.ys (v := ?_) rfl rfl rfl ?_ ?_
        rotate_left 1
        · intro W' hW'
          go_simp
          try with_reducible rfl
        try simp only [Act.put, List.setIfInBounds_toArray, List.set_cons_zero, List.set_cons_succ]
        refine rgn.Walk.ys (v := ?_) rfl rfl rfl ?_ ?_
        rotate_left 1
        · intro W' hW'
          go_simp
          try with_reducible rfl
        try simp only [Act.put, List.setIfInBounds_toArray, List.set_cons_zero, List.set_cons_succ]
        refine rgn.Walk.es ?_
        refine rgn.stepE rfl rfl (fun K hK => ?_)
        have qq : World.cell? _ ⟨g, 0, none⟩ = some (.slice A n c) := (HO.out.only HB.out (by simp)).cell 0
        have ff := (HO.out.only HB.out (by simp)).frozen 0
        obtain ⟨A3, c3, ev3, hc3, hm3, hn3, r3, hb3, hs3⟩ := RdS.of_own V2.out (by intro u hu; simp only [List.mem_append] at hu; rcases hu with hu | hu; exact tcs_one D u (List.mem_of_mem_take hu); exact tcs_one D u (List.mem_of_mem_drop hu))
        have HLo : Hid (∀ b off, A3 = some ⟨b, off, none⟩ → w.heap.size ≤ b ∧ b < w3.heap.size) := hid (fun b off e => V2.out.lt b (hb3 b off e).2)
        have HC3 := hid hc3; have HM3 := hid hm3; have HN3 := hid hn3; have HR3 := hid r3; have HS3 := hid hs3
        clear hc3 hm3 hn3 r3 hb3 hs3
        rw [ev3]
        go_simp
        refine hK _ _ (AnyW.any _ _) ?_
        clear hK K qq ff ev3
        try simp only [Act.put, List.setIfInBounds_toArray, List.set_cons_zero, List.set_cons_succ]
        refine rgn.Walk.zs (NoPanic.normal ?_)
        have HFin : Hid (DNext w g A (rm D key) (w3.setCell ⟨g, 0, none⟩ (.slice A3 (k + (n - (k + 1))) c3))) := hid (by
          have e9 : tcs (rm D key) = (tcs D).take (k * 2) ++ (tcs D).drop ((k + 1) * 2) := by rw [HRM.out, tcs_erase D k HP.out]
          have e8 : (rm D key).length = k + (n - (k + 1)) := by rw [HRM.out, List.length_eraseIdx, if_pos HP.out, HL.out]; have h9 := HP.out; rw [HL.out] at h9; omega
          have hglt : g < w.heap.size := HO.out.lt
          have oo : Only [g] w3 (w3.setCell ⟨g, 0, none⟩ (.slice A3 (k + (n - (k + 1))) c3)) := (Only.refl _ _).setCell (p := ⟨g, 0, none⟩) (.inl (by simp)) _
          have hneg : ∀ b off, A3 = some ⟨b, off, none⟩ → b ≠ g := fun b off e => by have := HLo.out b off e; omega
          refine ⟨A3, c3, ⟨?_, ?_, by rw [e8]; exact HC3.out, HM3.out, HN3.out, HS3.out.elim .inl (fun ⟨b, e⟩ => .inr ⟨b, 0, e⟩), hneg, fun b off e => by have := (HLo.out b off e).2; simpa using this, by rw [e8]; have := HMo.out; omega⟩, fun b off e => .inr (HLo.out b off e).1, (HB.out.more (by simp)).setCell (p := ⟨g, 0, none⟩) (.inl (by simp)) _⟩
          · rw [e8]; exact (HO.out.only HB.out (by simp)).set 0 _
          · rw [e8, e9]; exact HR3.out.only oo (fun b off e _ => by simpa using hneg b off e))
        go_wp2
        go_ret
        exact ⟨rBool HE.out.symm, HFin.out⟩
end Go.Proofs.Ytnachendenodkaa.whl
