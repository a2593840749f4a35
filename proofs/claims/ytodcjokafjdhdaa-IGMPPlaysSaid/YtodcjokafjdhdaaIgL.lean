/-
  Chapter 10 (igmp): the document's Leave, by a walk of its text. Conditions: none but those typed.
-/
import Derived.Test.YtodcjokafjdhdaaIgK
namespace Go.Proofs.Ytodcjokafjdhdaa.igm
set_option linter.unusedVariables false
set_option linter.unusedSimpArgs false
open Go.ChangeShapes Go.WideShapes Go.ChangeAt Go.RowKit Go.IntWalk Go.Lib
theorem elemDm : ElemS Try.prog 48 83 (.agg #[.int .u32 0, .bool false, .int .i64 0, .bool false]) 4 24 := ⟨Try.underlying48, by kernel_rfl, by kernel_rfl, by decide⟩
theorem dslA (g o n c i : Nat) (hi : i < c) (hin : i ≤ n) (hnc : n ≤ c) (hc : c ≤ 9223372036854775807) (W : World) : (Instr.slice 48 (.slice (some ⟨g, 0, none⟩) n c) (some (.int .i64 (i : Int))) none none).run Try.prog W = .ok (.slice (some ⟨g, i * 4, none⟩) (n - i) (c - i)) W := by
  have y1 : (i : Int) ≤ (n : Int) := by omega
  have y2 : (n : Int) ≤ (c : Int) := by omega
  have y3 : ¬ (c : Int) = (i : Int) := by omega
  have y4 : ¬ c = i := by omega
  go_simp
theorem dslB (g n c i : Nat) (hin : i ≤ c) (hc : c ≤ 9223372036854775807) (W : World) : (Instr.slice 48 (.slice (some ⟨g, 0, none⟩) n c) none (some (.int .i64 (i : Int))) none).run Try.prog W = .ok (.slice (some ⟨g, 0, none⟩) i c) W := by
  have y1 : (i : Int) ≤ (c : Int) := by omega
  go_simp
set_option maxRecDepth 100000 in
theorem dslC (g n : Nat) (hc : n ≤ 9223372036854775807) (W : World) : (Instr.slice 48 (.slice (some ⟨g, 0, none⟩) n n) (some (.int .i64 (n : Int))) none none).run Try.prog W = .ok (.slice (some ⟨g, 0, none⟩) 0 0) W := by
  go_simp
set_option maxRecDepth 100000 in
/-- The rest of a row of the call's own behind its first k elements. -/
theorem dslFrom (w : World) (B : Nat) (A : Option Addr) (n c k : Nat) (D : List Dm) (hv : w.ownsRow B 83 4 (.slice A n c) D.length (rws Dm.enc D)) (hn : D.length = n) (hk : k ≤ n) : ∃ A2 c2, (∀ W, (Instr.slice 48 (.slice A n c) (some (.int .i64 (k : Int))) none none).run Try.prog W = .ok (.slice A2 (n - k) c2) W) ∧ RdS w A2 (n - k) 4 (rws Dm.enc (D.drop k)) ∧ (A2 = none → c2 = 0) ∧ (A2 = none ∨ ∃ b off, A2 = some ⟨b, off, none⟩) := by
  obtain ⟨A', c', e, hnc, hcm, _, hr, _, hA⟩ := RdS.of_own hv (rws_one dnc_one _)
  injection e with e1 e2 e3
  subst e1; subst e3
  have hcc : c ≤ 9223372036854775807 := by unfold maxLen at hcm; omega
  rw [hn] at hr hnc
  rcases hv.2 with ⟨hv2, h0⟩ | ⟨g, cap, cur, hv2, _⟩
  · injection hv2 with e1 e2 e3
    subst e1; subst e2; subst e3
    obtain rfl : k = 0 := by omega
    obtain rfl : D = [] := List.eq_nil_of_length_eq_zero h0
    exact ⟨none, 0, fun W => by kernel_rfl, RdS.zero _ _ _, fun _ => rfl, .inl rfl⟩
  · injection hv2 with e1 e2 e3
    subst e1
    by_cases hkc : k < c
    · refine ⟨some ⟨g, k * 4, none⟩, c - k, fun W => dslA g 0 n c k hkc hk hnc hcc W, ?_, fun e => (by cases e), .inr ⟨_, _, rfl⟩⟩
      have := hr.drop k hk
      rw [Nat.zero_add, rws_drop dnc_len D k (by omega)] at this
      exact this
    · obtain rfl : k = c := by omega
      obtain rfl : n = k := by omega
      refine ⟨some ⟨g, 0, none⟩, 0, fun W => ?_, ?_, fun e => (by cases e), .inr ⟨_, _, rfl⟩⟩
      · rw [Nat.sub_self]
        exact dslC g n hcc W
      · rw [Nat.sub_self, List.drop_of_length_le (by omega)]
        exact RdS.zero _ _ _
set_option maxRecDepth 100000 in
theorem dslTo (w : World) (B : Nat) (A : Option Addr) (n c k : Nat) (D : List Dm) (hv : w.ownsRow B 83 4 (.slice A n c) D.length (rws Dm.enc D)) (hn : D.length = n) (hk : k ≤ n) : (∀ W, (Instr.slice 48 (.slice A n c) none (some (.int .i64 (k : Int))) none).run Try.prog W = .ok (.slice A k c) W) ∧ RdS w A k 4 (rws Dm.enc (D.take k)) ∧ (A = none → c = 0) ∧ (A = none ∨ ∃ b off, A = some ⟨b, off, none⟩) := by
  obtain ⟨A', c', e, hnc, hcm, hz, hr, _, hA⟩ := RdS.of_own hv (rws_one dnc_one _)
  injection e with e1 e2 e3
  subst e1; subst e3
  have hcc : c ≤ 9223372036854775807 := by unfold maxLen at hcm; omega
  rw [hn] at hr hnc
  refine ⟨fun W => ?_, by rw [← rws_take dnc_len D k (by omega)]; exact hr.take k hk, hz, hA.imp id fun ⟨b, h⟩ => ⟨b, 0, h⟩⟩
  rcases hv.2 with ⟨hv2, h0⟩ | ⟨g, cap, cur, hv2, _⟩
  · injection hv2 with e1 e2 e3
    subst e1; subst e2; subst e3
    obtain rfl : k = 0 := by omega
    kernel_rfl
  · injection hv2 with e1 e2 e3
    subst e1
    exact dslB g n c k (by omega) hcc W
/-- What the document's Host has become: its new row lies in a block of its own, or it is the elder row. -/
structure DStp (w : World) (B g : Nat) (v : Value) (w' : World) (v' : Value) (D' : List Dm) : Prop where
  di : DI w' B g v' D'
  bk : v' = v ∨ ∀ j, v'.ownBlock = some j → w.heap.size ≤ j
  only : Only (g :: v.ownBlock.toList) w w'
theorem DI.same {w w' : World} {B g : Nat} {v : Value} {D : List Dm} (h : DI w B g v D) (o : Only [] w w') : DStp w B g v w' v D := ⟨h.nil o, .inl rfl, o.more (by simp)⟩
theorem dstp_put {w w9 : World} {B g : Nat} {v v' : Value} {D D' : List Dm} {n : Nat} (h : DI w B g v D) (o : Only [] w w9) (hB : B ≤ w.heap.size) (hv : w9.ownsRow w.heap.size 83 4 v' n (rws Dm.enc D')) (hn : n = D'.length) : DStp w B g v (w9.setCell ⟨g, 0, none⟩ v') v' D' := by
  have hob := h.ob.only o (by simp)
  have hob2 := hob.set 0 v'
  rw [show (#[v] : Array Value).setIfInBounds 0 v' = #[v'] from rfl] at hob2
  have hlt := h.ob.lt
  subst hn
  refine ⟨⟨hob2, own_only (own_mono hv hB) ((Only.refl [g] w9).setCell (p := ⟨g, 0, none⟩) (Or.inl (by simp)) v') (fun j hj hm => ?_)⟩, .inr (fun j hj => (own_lt hv j hj).1), (o.more (by simp)).setCell (p := ⟨g, 0, none⟩) (Or.inl (by simp)) _⟩
  have := (own_lt hv j hj).1
  rw [show j = g from by simpa using hm] at this
  omega
theorem hasS_get {S : List Gm} {t : Int} (h : hasS S t = true) : ∃ hk : spotS S t < S.length, (S[spotS S t]).g = t := by
  unfold hasS at h
  split at h
  · next a ha =>
    obtain ⟨hk, he⟩ := List.getElem?_eq_some_iff.1 ha
    exact ⟨hk, by rw [he]; simpa using h⟩
  · cases h
def LeaveDE (B g : Nat) (v : Value) (er : Int) (S' : List Gm) (snd : Bool) (t : Int) (w : World) (x : Ending) (w' : World) : Prop :=
  ∃ A n c cs v' D', x = .returned (.tuple #[.slice A n c, .int .i64 er]) ∧ (cs, n) = (if snd = true then (ibye t, 1) else ([], 0)) ∧ RdS w' A n 3 cs ∧ (∀ b off, A = some ⟨b, off, none⟩ → w.heap.size ≤ b) ∧ DStp w B g v w' v' D' ∧ D'.map Dm.ab = S'
set_option maxRecDepth 100000 in
set_option maxHeartbeats 8000000 in
theorem leaveD (w : World) (B g : Nat) (v : Value) (D : List Dm) (t : Int) (h : DI w B g v D) (hR : RiseS (D.map Dm.ab)) (hl : D.length ≤ 16) (hB : B ≤ w.heap.size) :
    Calls Try.prog 37 #[.pointer (some ⟨g, 0, none⟩), .int .u32 t] w (LeaveDE B g v (leaveE (D.map Dm.ab) t) (leaveS (D.map Dm.ab) t) (leaveA (D.map Dm.ab) t) t w) := by
  have H := hid h; have HB := hid hB; have HRi := hid hR
  clear h hR hB
  cases hh : hasS (D.map Dm.ab) t with
  | false =>
    have HH := hid hh
    have HE : Hid (leaveE (D.map Dm.ab) t = 7 ∧ leaveS (D.map Dm.ab) t = D.map Dm.ab ∧ leaveA (D.map Dm.ab) t = false) := hid (by
      refine ⟨by unfold leaveE; rw [hh]; rfl, by unfold leaveS; rw [hh]; rfl, ?_⟩
      unfold hasS at hh
      unfold leaveA
      cases hx : (D.map Dm.ab)[spotS (D.map Dm.ab) t]? with
      | none => rfl
      | some a => rw [hx] at hh; simp only at hh ⊢; rw [hh]; rfl)
    rw [HE.out.1, HE.out.2.1, HE.out.2.2]
    clear hh
    go_enter Try.func37, Try.ntmps37
    go_wp2_with fail
    refine (spotD w B g v D t H.out HRi.out (by omega)).mono ?_
    rintro x w2 ⟨rfl, o2⟩
    rw [HH.out]
    have O2 := hid o2; clear o2
    go_wp2_with fail
    go_ret2
    exact ⟨none, 0, 0, [], v, D, rfl, rfl, RdS.zero _ _ _, by simp, H.out.same O2.out, rfl⟩
  | true =>
    have HH := hid hh
    obtain ⟨hk, hg⟩ := hasS_get hh
    obtain ⟨k, hke⟩ : ∃ k, spotS (D.map Dm.ab) t = k := ⟨_, rfl⟩
    have HKE := hid hke
    simp only [hke] at hk hg
    rw [List.getElem_map] at hg
    rw [List.length_map] at hk
    obtain ⟨mm, hmm⟩ : ∃ mm, D[k] = mm := ⟨_, rfl⟩
    have HM : Hid (D = D.take k ++ mm :: D.drop (k + 1)) := hid (by rw [← hmm, ← List.drop_eq_getElem_cons hk, List.take_append_drop])
    have hgm : mm.g = t := by rw [← hmm]; exact hg
    have HE : Hid (leaveE (D.map Dm.ab) t = 0 ∧ leaveS (D.map Dm.ab) t = (D.take k ++ D.drop (k + 1)).map Dm.ab ∧ leaveA (D.map Dm.ab) t = mm.o) := hid (by
      refine ⟨by unfold leaveE; rw [hh]; rfl, ?_, ?_⟩
      · unfold leaveS; rw [hh, if_pos rfl, hke, List.map_append, List.map_take, List.map_drop]
      · unfold leaveA
        rw [hke, List.getElem?_map, List.getElem?_eq_getElem hk, hmm]
        simp only [Option.map, Dm.ab]
        rw [hgm]; simp)
    rw [HE.out.1, HE.out.2.1, HE.out.2.2]
    obtain ⟨gb, c, ev⟩ := H.out.form (fun e => by rw [e] at hk; simp at hk)
    have HEV := hid ev
    obtain ⟨n, hn⟩ : ∃ n, D.length = n := ⟨_, rfl⟩
    have HN := hid hn
    have HTK : Hid ((D.take k).length = k) := hid (by rw [List.length_take]; omega)
    rw [hn] at hk hl
    have HKN := hid hk
    clear hh hke hg hmm hgm ev hn
    go_enter Try.func37, Try.ntmps37
    go_wp2_with fail
    refine (spotD w B g v D t H.out HRi.out (by rw [HN.out]; exact hl)).mono ?_
    rintro x w2 ⟨rfl, o2⟩
    rw [HH.out, HKE.out]
    have H2 := hid (H.out.nil o2); have Q2 := hid o2
    clear o2
    have H3 := H2
    rw [HEV.out] at H3
    have H4 := H3
    rw [HM.out] at H4
    obtain ⟨_, _, _, d3, _, _, _⟩ := H4.out.cells HTK.out
    clear H4
    rw [HN.out] at H3
    have k0 := H3.out.ob.cell 0
    obtain ⟨hS1, hR1, hZ1, hF1⟩ := dslTo w2 B (some ⟨gb, 0, none⟩) n c k D H3.out.own HN.out (by omega)
    obtain ⟨A2, c2, hS2, hR2, hZ2, hF2⟩ := dslFrom w2 B (some ⟨gb, 0, none⟩) n c (k + 1) D H3.out.own HN.out (by omega)
    rw [show (((k + 1 : Nat)) : Int) = (k : Int) + 1 from by omega] at hS2
    have HS1 := hid hS1; have HR1 := hid hR1; have HZ1 := hid hZ1; have HF1 := hid hF1; have HS2 := hid hS2; have HR2 := hid hR2; have HZ2 := hid hZ2; have HF2 := hid hF2
    have HO4 := hid H3.out.ob
    have HLw : Hid (w.heap.size ≤ w2.heap.size) := hid Q2.out.size
    have HWR : Hid (IntKind.i64.wrap ((k : Int) + 1) = (k : Int) + 1) := hid (i64_in _ (by omega))
    have hk0 : ¬ (k : Int) < 0 := by omega
    have hkI : (k : Int) < (n : Int) := by omega
    clear hS1 hR1 hZ1 hF1 hS2 hR2 hZ2 hF2
    obtain ⟨mg, mt, ma, mo⟩ := mm
    replace d3 : w2.cell? ⟨gb, k * 4 + 3, none⟩ = some (.bool mo) := d3
    replace k0 : w2.cell? ⟨g, 0, none⟩ = some (.slice (some ⟨gb, 0, none⟩) n c) := k0
    go_wp2_with fail
    clear d3 k0
    refine wp_region_noPanic ?_
    refine rgn.regionT (R := AnyW) (by kernel_rfl) (fun _ => AnyW.any _ _) (fun _ _ _ _ _ => AnyW.any _ _) (fun _ _ _ _ _ h => h) (.y 0 (.y 2 (.y 3 (.y 4 (.y 6 (.y 9 (.y 10 (.y 11 (.y 13 (.y 14 (.c 1 5 12 (.b 5 12 (.y 7 (.b 8 12 (.e 12 (.y 15 (.e 16 (.y 17 (.y 18 (.e 19 .z)))))) (.y 15 (.e 8 (.e 16 (.y 17 (.y 18 (.e 19 .z)))))))) (.y 15 (.e 5 (.y 7 (.e 8 (.e 16 (.y 17 (.y 18 (.e 19 .z))))))))) (.y 7 (.b 1 12 (.b 8 12 (.e 12 (.y 15 (.e 16 (.y 17 (.y 18 (.e 19 .z)))))) (.y 15 (.e 8 (.e 16 (.y 17 (.y 18 (.e 19 .z))))))) (.y 15 (.e 1 (.e 8 (.e 16 (.y 17 (.y 18 (.e 19 .z))))))))) (.y 15 (.b 1 5 (.e 5 (.y 7 (.e 8 (.e 16 (.y 17 (.y 18 (.e 19 .z))))))) (.y 7 (.e 1 (.e 8 (.e 16 (.y 17 (.y 18 (.e 19 .z)))))))))))))))))))) (by kernel_rfl) (fun WR hWd => ?_)
    have HWd := hid hWd; clear hWd
    have q9 : Only [] w2 WR := Only.eq_drew (Only.refl [] _) HWd.out
    have QC := hid q9; have HSZ := hid q9.size
    clear q9 HWd
    refine rgn.Walk.ys (v := ?_) rfl rfl rfl ?_ ?_
    rotate_left 1
    · intro W' hW'
      go_simp
      try with_reducible rfl
    try simp only [Act.put, List.setIfInBounds_toArray, List.set_cons_zero, List.set_cons_succ]
    refine rgn.Walk.ys (v := ?_) rfl rfl rfl ?_ ?_
    rotate_left 1
    · intro W' hW'
      go_simp
      try with_reducible rfl
    try simp only [Act.put, List.setIfInBounds_toArray, List.set_cons_zero, List.set_cons_succ]
    refine rgn.Walk.ys (v := ?_) rfl rfl rfl ?_ ?_
    rotate_left 1
    · intro W' hW'
      go_simp
      try with_reducible rfl
    try simp only [Act.put, List.setIfInBounds_toArray, List.set_cons_zero, List.set_cons_succ]
    refine rgn.Walk.ys (v := ?_) rfl rfl rfl ?_ ?_
    rotate_left 1
    · intro W' hW'
      go_simp
      try with_reducible rfl
    try simp only [Act.put, List.setIfInBounds_toArray, List.set_cons_zero, List.set_cons_succ]
    refine rgn.Walk.ys (v := ?_) rfl rfl rfl ?_ ?_
    rotate_left 1
    · intro W' hW'
      go_simp
      try with_reducible rfl
    try simp only [Act.put, List.setIfInBounds_toArray, List.set_cons_zero, List.set_cons_succ]
    refine rgn.Walk.ys (v := ?_) rfl rfl rfl ?_ ?_
    rotate_left 1
    · intro W' hW'
      go_simp
      try with_reducible rfl
    try simp only [Act.put, List.setIfInBounds_toArray, List.set_cons_zero, List.set_cons_succ]
    refine rgn.Walk.ys (v := ?_) rfl rfl rfl ?_ ?_
    rotate_left 1
    · intro W' hW'
      go_simp
      try with_reducible rfl
    try simp only [Act.put, List.setIfInBounds_toArray, List.set_cons_zero, List.set_cons_succ]
    refine rgn.Walk.ys (v := ?_) rfl rfl rfl ?_ ?_
    rotate_left 1
    · intro W' hW'
      go_simp
      try with_reducible rfl
    try simp only [Act.put, List.setIfInBounds_toArray, List.set_cons_zero, List.set_cons_succ]
    refine rgn.Walk.ys (v := ?_) rfl rfl rfl ?_ ?_
    rotate_left 1
    · intro W' hW'
      go_simp
      try with_reducible rfl
    try simp only [Act.put, List.setIfInBounds_toArray, List.set_cons_zero, List.set_cons_succ]
    refine rgn.Walk.ys (v := ?_) rfl rfl rfl ?_ ?_
    rotate_left 1
    · intro W' hW'
      go_simp
      try rw [HWR.out]
      try with_reducible rfl
    try simp only [Act.put, List.setIfInBounds_toArray, List.set_cons_zero, List.set_cons_succ]
    refine rgn.Walk.cs ?_ ?_ ?_
    · refine rgn.stepE rfl rfl (fun K hK => ?_)
      go_simp
      refine hK _ _ (AnyW.any _ _) ?_
      clear hK K
      try simp only [Act.put, List.setIfInBounds_toArray, List.set_cons_zero, List.set_cons_succ]
      obtain ⟨wE, hwE⟩ : ∃ x, WR.alloc (.cells #[] 83) = x := ⟨_, rfl⟩
      rw [hwE]
      have oE : Only [] WR wE := by rw [← hwE]; exact (Only.refl [] WR).alloc _
      have HE9 : Hid (wE.ownsRow w2.heap.size 83 4 (.slice (some ⟨WR.heap.size, 0, none⟩) 0 0) 0 []) := hid ⟨by simp, .inr ⟨WR.heap.size, 0, #[], rfl, HSZ.out, by rw [← hwE]; exact Ob.new _ _ _, Nat.le_refl _, by unfold maxLen; omega, by simp, by simp⟩⟩
      replace QC := hid (QC.out.trans oE); replace HSZ := hid QC.out.size
      clear oE hwE
      refine rgn.Walk.bs ?_ ?_
      · refine rgn.stepE rfl rfl (fun K hK => ?_)
        have qq := (HO4.out.only QC.out (by simp)).cell 0
        go_simp
        refine hK _ _ (AnyW.any _ _) ?_
        clear hK K qq
        try simp only [Act.put, List.setIfInBounds_toArray, List.set_cons_zero, List.set_cons_succ]
        refine rgn.Walk.ys (v := ?_) rfl rfl rfl ?_ ?_
        rotate_left 1
        · intro W' hW'
          have hs1 := HS1.out
          go_simp
          try with_reducible rfl
        try simp only [Act.put, List.setIfInBounds_toArray, List.set_cons_zero, List.set_cons_succ]
        refine rgn.Walk.bs ?_ ?_
        · refine rgn.stepE rfl rfl (fun K hK => ?_)
          refine opAppS _ rfl (.tmp 26) (.tmp 32) _ rfl elemDm _ (.slice (some ⟨WR.heap.size, 0, none⟩) 0 0) 0 [] rfl HE9.out (some ⟨gb, 0, none⟩) k c (rws Dm.enc (D.take k)) rfl (HR1.out.only_nil QC.out) HZ1.out HF1.out (by omega) (by unfold maxLen; omega) HSZ.out (fun v7 w7 hv7 hg7 hb7 => ?_)
          refine hK _ _ (AnyW.any _ _) ?_
          clear hK K
          try simp only [Act.put, List.setIfInBounds_toArray, List.set_cons_zero, List.set_cons_succ]
          have V7 := hid (show w7.ownsRow _ 83 4 v7 k (rws Dm.enc (D.take k)) from by simpa using hv7)
          replace QC := hid (QC.out.of_grown hg7 (fun jj hj2 => .inr (own_lt HE9.out jj hj2).1)); replace HSZ := hid QC.out.size
          clear hv7 hg7 hb7
          refine rgn.Walk.es ?_
          refine rgn.stepE rfl rfl (fun K hK => ?_)
          have qq := (HO4.out.only QC.out (by simp)).cell 0
          go_simp
          refine hK _ _ (AnyW.any _ _) ?_
          clear hK K qq
          try simp only [Act.put, List.setIfInBounds_toArray, List.set_cons_zero, List.set_cons_succ]
          refine rgn.Walk.ys (v := ?_) rfl rfl rfl ?_ ?_
          rotate_left 1
          · intro W' hW'
            have hs2 := HS2.out
            go_simp
            try with_reducible rfl
          try simp only [Act.put, List.setIfInBounds_toArray, List.set_cons_zero, List.set_cons_succ]
          refine rgn.Walk.es ?_
          refine rgn.stepE rfl rfl (fun K hK => ?_)
          refine opAppS _ rfl (.tmp 33) (.tmp 40) _ rfl elemDm _ v7 k (rws Dm.enc (D.take k)) rfl V7.out A2 (n - (k + 1)) c2 (rws Dm.enc (D.drop (k + 1))) rfl (HR2.out.only_nil QC.out) HZ2.out HF2.out (by omega) (by unfold maxLen; omega) HSZ.out (fun v10 w10 hv10 hg10 hb10 => ?_)
          rw [← rws_app] at hv10
          obtain ⟨A12, c12, e12, -, -, -, -, -, -⟩ := RdS.of_own hv10 (rws_one dnc_one _)
          have HE12 := hid e12
          rw [e12]
          refine hK _ _ (AnyW.any _ _) ?_
          clear hK K
          try simp only [Act.put, List.setIfInBounds_toArray, List.set_cons_zero, List.set_cons_succ]
          have HV12 : Hid (w10.ownsRow w.heap.size 83 4 v10 (k + (n - (k + 1))) (rws Dm.enc (D.take k ++ D.drop (k + 1)))) := hid (own_mono hv10 HLw.out)
          replace QC := hid (QC.out.of_grown hg10 (fun jj hj2 => .inr (own_lt V7.out jj hj2).1))
          clear hv10 hg10 hb10 e12
          refine rgn.Walk.ys (v := ?_) rfl rfl rfl ?_ ?_
          rotate_left 1
          · intro W' hW'
            go_simp
            try with_reducible rfl
          try simp only [Act.put, List.setIfInBounds_toArray, List.set_cons_zero, List.set_cons_succ]
          refine rgn.Walk.ys (v := ?_) rfl rfl rfl ?_ ?_
          rotate_left 1
          · intro W' hW'
            go_simp
            try with_reducible rfl
          try simp only [Act.put, List.setIfInBounds_toArray, List.set_cons_zero, List.set_cons_succ]
          refine rgn.Walk.es ?_
          refine rgn.stepE rfl rfl (fun K hK => ?_)
          have HOC := hid (HO4.out.only QC.out (by simp))
          have k0 := HOC.out.cell 0; have f0 := HOC.out.frozen 0
          go_simp
          refine hK _ _ (AnyW.any _ _) ?_
          clear hK K k0 f0
          try simp only [Act.put, List.setIfInBounds_toArray, List.set_cons_zero, List.set_cons_succ]
          refine rgn.Walk.zs (NoPanic.normal ?_)
          have hll : (D.take k ++ D.drop (k + 1)).length = k + (n - (k + 1)) := by rw [List.length_append, List.length_take, List.length_drop, HN.out]; omega
          have hst := dstp_put H.out (Q2.out.trans QC.out) HB.out HV12.out hll.symm
          rw [HE12.out] at hst
          obtain ⟨WZ, hWZ⟩ : ∃ x, w10.setCell ⟨g, 0, none⟩ (.slice A12 (k + (n - (k + 1))) c12) = x := ⟨_, rfl⟩
          rw [hWZ] at hst ⊢
          have HST := hid hst
          clear hst hWZ
          cases mo with
          | false =>
            go_wp2_with fail
            go_ret2
            exact ⟨none, 0, 0, [], _, _, rfl, rfl, RdS.zero _ _ _, by simp, HST.out, rfl⟩
          | true =>
            go_wp2_with fail
            go_ret2
            have oA := (Only.refl [] WZ).alloc (.cells #[.int .i64 23, .int .i64 0, .int .u32 t] 25)
            have hsz : w.heap.size ≤ WZ.heap.size := HST.out.only.size
            refine ⟨_, 1, 1, ibye t, _, _, rfl, rfl, ⟨rfl, fun u hu => ?_, fun _ => ⟨WZ.heap.size, 0, rfl, by simp, fun j u hj => ?_⟩⟩, fun b off e => ?_, ⟨HST.out.di.nil oA, HST.out.bk, HST.out.only.trans (oA.more (by simp))⟩, rfl⟩
            · simp only [ibye, List.mem_cons, List.not_mem_nil, or_false] at hu
              rcases hu with rfl | rfl | rfl <;> rfl
            · rw [Nat.zero_add, (Ob.new WZ 25 _).cell]
              rw [← hj]; unfold ibye; simp
            · injection e with e; injection e with e; omega
        · refine rgn.stepE rfl rfl (fun K hK => ?_)
          have qq := (HO4.out.only QC.out (by simp)).cell 0
          go_simp
          refine hK _ _ (AnyW.any _ _) ?_
          clear hK K qq
          try simp only [Act.put, List.setIfInBounds_toArray, List.set_cons_zero, List.set_cons_succ]
          refine rgn.Walk.ys (v := ?_) rfl rfl rfl ?_ ?_
          rotate_left 1
          · intro W' hW'
            have hs2 := HS2.out
            go_simp
            try with_reducible rfl
          try simp only [Act.put, List.setIfInBounds_toArray, List.set_cons_zero, List.set_cons_succ]
          refine rgn.Walk.es ?_
          refine rgn.stepE rfl rfl (fun K hK => ?_)
          refine opAppS _ rfl (.tmp 26) (.tmp 32) _ rfl elemDm _ (.slice (some ⟨WR.heap.size, 0, none⟩) 0 0) 0 [] rfl HE9.out (some ⟨gb, 0, none⟩) k c (rws Dm.enc (D.take k)) rfl (HR1.out.only_nil QC.out) HZ1.out HF1.out (by omega) (by unfold maxLen; omega) HSZ.out (fun v7 w7 hv7 hg7 hb7 => ?_)
          refine hK _ _ (AnyW.any _ _) ?_
          clear hK K
          try simp only [Act.put, List.setIfInBounds_toArray, List.set_cons_zero, List.set_cons_succ]
          have V7 := hid (show w7.ownsRow _ 83 4 v7 k (rws Dm.enc (D.take k)) from by simpa using hv7)
          replace QC := hid (QC.out.of_grown hg7 (fun jj hj2 => .inr (own_lt HE9.out jj hj2).1)); replace HSZ := hid QC.out.size
          clear hv7 hg7 hb7
          refine rgn.Walk.es ?_
          refine rgn.stepE rfl rfl (fun K hK => ?_)
          refine opAppS _ rfl (.tmp 33) (.tmp 40) _ rfl elemDm _ v7 k (rws Dm.enc (D.take k)) rfl V7.out A2 (n - (k + 1)) c2 (rws Dm.enc (D.drop (k + 1))) rfl (HR2.out.only_nil QC.out) HZ2.out HF2.out (by omega) (by unfold maxLen; omega) HSZ.out (fun v10 w10 hv10 hg10 hb10 => ?_)
          rw [← rws_app] at hv10
          obtain ⟨A12, c12, e12, -, -, -, -, -, -⟩ := RdS.of_own hv10 (rws_one dnc_one _)
          have HE12 := hid e12
          rw [e12]
          refine hK _ _ (AnyW.any _ _) ?_
          clear hK K
          try simp only [Act.put, List.setIfInBounds_toArray, List.set_cons_zero, List.set_cons_succ]
          have HV12 : Hid (w10.ownsRow w.heap.size 83 4 v10 (k + (n - (k + 1))) (rws Dm.enc (D.take k ++ D.drop (k + 1)))) := hid (own_mono hv10 HLw.out)
          replace QC := hid (QC.out.of_grown hg10 (fun jj hj2 => .inr (own_lt V7.out jj hj2).1))
          clear hv10 hg10 hb10 e12
          refine rgn.Walk.ys (v := ?_) rfl rfl rfl ?_ ?_
          rotate_left 1
          · intro W' hW'
            go_simp
            try with_reducible rfl
          try simp only [Act.put, List.setIfInBounds_toArray, List.set_cons_zero, List.set_cons_succ]
          refine rgn.Walk.ys (v := ?_) rfl rfl rfl ?_ ?_
          rotate_left 1
          · intro W' hW'
            go_simp
            try with_reducible rfl
          try simp only [Act.put, List.setIfInBounds_toArray, List.set_cons_zero, List.set_cons_succ]
          refine rgn.Walk.es ?_
          refine rgn.stepE rfl rfl (fun K hK => ?_)
          have HOC := hid (HO4.out.only QC.out (by simp))
          have k0 := HOC.out.cell 0; have f0 := HOC.out.frozen 0
          go_simp
          refine hK _ _ (AnyW.any _ _) ?_
          clear hK K k0 f0
          try simp only [Act.put, List.setIfInBounds_toArray, List.set_cons_zero, List.set_cons_succ]
          refine rgn.Walk.zs (NoPanic.normal ?_)
          have hll : (D.take k ++ D.drop (k + 1)).length = k + (n - (k + 1)) := by rw [List.length_append, List.length_take, List.length_drop, HN.out]; omega
          have hst := dstp_put H.out (Q2.out.trans QC.out) HB.out HV12.out hll.symm
          rw [HE12.out] at hst
          obtain ⟨WZ, hWZ⟩ : ∃ x, w10.setCell ⟨g, 0, none⟩ (.slice A12 (k + (n - (k + 1))) c12) = x := ⟨_, rfl⟩
          rw [hWZ] at hst ⊢
          have HST := hid hst
          clear hst hWZ
          cases mo with
          | false =>
            go_wp2_with fail
            go_ret2
            exact ⟨none, 0, 0, [], _, _, rfl, rfl, RdS.zero _ _ _, by simp, HST.out, rfl⟩
          | true =>
            go_wp2_with fail
            go_ret2
            have oA := (Only.refl [] WZ).alloc (.cells #[.int .i64 23, .int .i64 0, .int .u32 t] 25)
            have hsz : w.heap.size ≤ WZ.heap.size := HST.out.only.size
            refine ⟨_, 1, 1, ibye t, _, _, rfl, rfl, ⟨rfl, fun u hu => ?_, fun _ => ⟨WZ.heap.size, 0, rfl, by simp, fun j u hj => ?_⟩⟩, fun b off e => ?_, ⟨HST.out.di.nil oA, HST.out.bk, HST.out.only.trans (oA.more (by simp))⟩, rfl⟩
            · simp only [ibye, List.mem_cons, List.not_mem_nil, or_false] at hu
              rcases hu with rfl | rfl | rfl <;> rfl
            · rw [Nat.zero_add, (Ob.new WZ 25 _).cell]
              rw [← hj]; unfold ibye; simp
            · injection e with e; injection e with e; omega
      · refine rgn.stepE rfl rfl (fun K hK => ?_)
        have qq := (HO4.out.only QC.out (by simp)).cell 0
        go_simp
        refine hK _ _ (AnyW.any _ _) ?_
        clear hK K qq
        try simp only [Act.put, List.setIfInBounds_toArray, List.set_cons_zero, List.set_cons_succ]
        refine rgn.Walk.ys (v := ?_) rfl rfl rfl ?_ ?_
        rotate_left 1
        · intro W' hW'
          have hs2 := HS2.out
          go_simp
          try with_reducible rfl
        try simp only [Act.put, List.setIfInBounds_toArray, List.set_cons_zero, List.set_cons_succ]
        refine rgn.Walk.es ?_
        refine rgn.stepE rfl rfl (fun K hK => ?_)
        have qq := (HO4.out.only QC.out (by simp)).cell 0
        go_simp
        refine hK _ _ (AnyW.any _ _) ?_
        clear hK K qq
        try simp only [Act.put, List.setIfInBounds_toArray, List.set_cons_zero, List.set_cons_succ]
        refine rgn.Walk.ys (v := ?_) rfl rfl rfl ?_ ?_
        rotate_left 1
        · intro W' hW'
          have hs1 := HS1.out
          go_simp
          try with_reducible rfl
        try simp only [Act.put, List.setIfInBounds_toArray, List.set_cons_zero, List.set_cons_succ]
        refine rgn.Walk.es ?_
        refine rgn.stepE rfl rfl (fun K hK => ?_)
        refine opAppS _ rfl (.tmp 26) (.tmp 32) _ rfl elemDm _ (.slice (some ⟨WR.heap.size, 0, none⟩) 0 0) 0 [] rfl HE9.out (some ⟨gb, 0, none⟩) k c (rws Dm.enc (D.take k)) rfl (HR1.out.only_nil QC.out) HZ1.out HF1.out (by omega) (by unfold maxLen; omega) HSZ.out (fun v7 w7 hv7 hg7 hb7 => ?_)
        refine hK _ _ (AnyW.any _ _) ?_
        clear hK K
        try simp only [Act.put, List.setIfInBounds_toArray, List.set_cons_zero, List.set_cons_succ]
        have V7 := hid (show w7.ownsRow _ 83 4 v7 k (rws Dm.enc (D.take k)) from by simpa using hv7)
        replace QC := hid (QC.out.of_grown hg7 (fun jj hj2 => .inr (own_lt HE9.out jj hj2).1)); replace HSZ := hid QC.out.size
        clear hv7 hg7 hb7
        refine rgn.Walk.es ?_
        refine rgn.stepE rfl rfl (fun K hK => ?_)
        refine opAppS _ rfl (.tmp 33) (.tmp 40) _ rfl elemDm _ v7 k (rws Dm.enc (D.take k)) rfl V7.out A2 (n - (k + 1)) c2 (rws Dm.enc (D.drop (k + 1))) rfl (HR2.out.only_nil QC.out) HZ2.out HF2.out (by omega) (by unfold maxLen; omega) HSZ.out (fun v10 w10 hv10 hg10 hb10 => ?_)
        rw [← rws_app] at hv10
        obtain ⟨A12, c12, e12, -, -, -, -, -, -⟩ := RdS.of_own hv10 (rws_one dnc_one _)
        have HE12 := hid e12
        rw [e12]
        refine hK _ _ (AnyW.any _ _) ?_
        clear hK K
        try simp only [Act.put, List.setIfInBounds_toArray, List.set_cons_zero, List.set_cons_succ]
        have HV12 : Hid (w10.ownsRow w.heap.size 83 4 v10 (k + (n - (k + 1))) (rws Dm.enc (D.take k ++ D.drop (k + 1)))) := hid (own_mono hv10 HLw.out)
        replace QC := hid (QC.out.of_grown hg10 (fun jj hj2 => .inr (own_lt V7.out jj hj2).1))
        clear hv10 hg10 hb10 e12
        refine rgn.Walk.ys (v := ?_) rfl rfl rfl ?_ ?_
        rotate_left 1
        · intro W' hW'
          go_simp
          try with_reducible rfl
        try simp only [Act.put, List.setIfInBounds_toArray, List.set_cons_zero, List.set_cons_succ]
        refine rgn.Walk.ys (v := ?_) rfl rfl rfl ?_ ?_
        rotate_left 1
        · intro W' hW'
          go_simp
          try with_reducible rfl
        try simp only [Act.put, List.setIfInBounds_toArray, List.set_cons_zero, List.set_cons_succ]
        refine rgn.Walk.es ?_
        refine rgn.stepE rfl rfl (fun K hK => ?_)
        have HOC := hid (HO4.out.only QC.out (by simp))
        have k0 := HOC.out.cell 0; have f0 := HOC.out.frozen 0
        go_simp
        refine hK _ _ (AnyW.any _ _) ?_
        clear hK K k0 f0
        try simp only [Act.put, List.setIfInBounds_toArray, List.set_cons_zero, List.set_cons_succ]
        refine rgn.Walk.zs (NoPanic.normal ?_)
        have hll : (D.take k ++ D.drop (k + 1)).length = k + (n - (k + 1)) := by rw [List.length_append, List.length_take, List.length_drop, HN.out]; omega
        have hst := dstp_put H.out (Q2.out.trans QC.out) HB.out HV12.out hll.symm
        rw [HE12.out] at hst
        obtain ⟨WZ, hWZ⟩ : ∃ x, w10.setCell ⟨g, 0, none⟩ (.slice A12 (k + (n - (k + 1))) c12) = x := ⟨_, rfl⟩
        rw [hWZ] at hst ⊢
        have HST := hid hst
        clear hst hWZ
        cases mo with
        | false =>
          go_wp2_with fail
          go_ret2
          exact ⟨none, 0, 0, [], _, _, rfl, rfl, RdS.zero _ _ _, by simp, HST.out, rfl⟩
        | true =>
          go_wp2_with fail
          go_ret2
          have oA := (Only.refl [] WZ).alloc (.cells #[.int .i64 23, .int .i64 0, .int .u32 t] 25)
          have hsz : w.heap.size ≤ WZ.heap.size := HST.out.only.size
          refine ⟨_, 1, 1, ibye t, _, _, rfl, rfl, ⟨rfl, fun u hu => ?_, fun _ => ⟨WZ.heap.size, 0, rfl, by simp, fun j u hj => ?_⟩⟩, fun b off e => ?_, ⟨HST.out.di.nil oA, HST.out.bk, HST.out.only.trans (oA.more (by simp))⟩, rfl⟩
          · simp only [ibye, List.mem_cons, List.not_mem_nil, or_false] at hu
            rcases hu with rfl | rfl | rfl <;> rfl
          · rw [Nat.zero_add, (Ob.new WZ 25 _).cell]
            rw [← hj]; unfold ibye; simp
          · injection e with e; injection e with e; omega
    · refine rgn.stepE rfl rfl (fun K hK => ?_)
      have qq := (HO4.out.only QC.out (by simp)).cell 0
      go_simp
      refine hK _ _ (AnyW.any _ _) ?_
      clear hK K qq
      try simp only [Act.put, List.setIfInBounds_toArray, List.set_cons_zero, List.set_cons_succ]
      refine rgn.Walk.ys (v := ?_) rfl rfl rfl ?_ ?_
      rotate_left 1
      · intro W' hW'
        have hs1 := HS1.out
        go_simp
        try with_reducible rfl
      try simp only [Act.put, List.setIfInBounds_toArray, List.set_cons_zero, List.set_cons_succ]
      refine rgn.Walk.bs ?_ ?_
      · refine rgn.stepE rfl rfl (fun K hK => ?_)
        go_simp
        refine hK _ _ (AnyW.any _ _) ?_
        clear hK K
        try simp only [Act.put, List.setIfInBounds_toArray, List.set_cons_zero, List.set_cons_succ]
        obtain ⟨wE, hwE⟩ : ∃ x, WR.alloc (.cells #[] 83) = x := ⟨_, rfl⟩
        rw [hwE]
        have oE : Only [] WR wE := by rw [← hwE]; exact (Only.refl [] WR).alloc _
        have HE9 : Hid (wE.ownsRow w2.heap.size 83 4 (.slice (some ⟨WR.heap.size, 0, none⟩) 0 0) 0 []) := hid ⟨by simp, .inr ⟨WR.heap.size, 0, #[], rfl, HSZ.out, by rw [← hwE]; exact Ob.new _ _ _, Nat.le_refl _, by unfold maxLen; omega, by simp, by simp⟩⟩
        replace QC := hid (QC.out.trans oE); replace HSZ := hid QC.out.size
        clear oE hwE
        refine rgn.Walk.bs ?_ ?_
        · refine rgn.stepE rfl rfl (fun K hK => ?_)
          refine opAppS _ rfl (.tmp 26) (.tmp 32) _ rfl elemDm _ (.slice (some ⟨WR.heap.size, 0, none⟩) 0 0) 0 [] rfl HE9.out (some ⟨gb, 0, none⟩) k c (rws Dm.enc (D.take k)) rfl (HR1.out.only_nil QC.out) HZ1.out HF1.out (by omega) (by unfold maxLen; omega) HSZ.out (fun v7 w7 hv7 hg7 hb7 => ?_)
          refine hK _ _ (AnyW.any _ _) ?_
          clear hK K
          try simp only [Act.put, List.setIfInBounds_toArray, List.set_cons_zero, List.set_cons_succ]
          have V7 := hid (show w7.ownsRow _ 83 4 v7 k (rws Dm.enc (D.take k)) from by simpa using hv7)
          replace QC := hid (QC.out.of_grown hg7 (fun jj hj2 => .inr (own_lt HE9.out jj hj2).1)); replace HSZ := hid QC.out.size
          clear hv7 hg7 hb7
          refine rgn.Walk.es ?_
          refine rgn.stepE rfl rfl (fun K hK => ?_)
          have qq := (HO4.out.only QC.out (by simp)).cell 0
          go_simp
          refine hK _ _ (AnyW.any _ _) ?_
          clear hK K qq
          try simp only [Act.put, List.setIfInBounds_toArray, List.set_cons_zero, List.set_cons_succ]
          refine rgn.Walk.ys (v := ?_) rfl rfl rfl ?_ ?_
          rotate_left 1
          · intro W' hW'
            have hs2 := HS2.out
            go_simp
            try with_reducible rfl
          try simp only [Act.put, List.setIfInBounds_toArray, List.set_cons_zero, List.set_cons_succ]
          refine rgn.Walk.es ?_
          refine rgn.stepE rfl rfl (fun K hK => ?_)
          refine opAppS _ rfl (.tmp 33) (.tmp 40) _ rfl elemDm _ v7 k (rws Dm.enc (D.take k)) rfl V7.out A2 (n - (k + 1)) c2 (rws Dm.enc (D.drop (k + 1))) rfl (HR2.out.only_nil QC.out) HZ2.out HF2.out (by omega) (by unfold maxLen; omega) HSZ.out (fun v10 w10 hv10 hg10 hb10 => ?_)
          rw [← rws_app] at hv10
          obtain ⟨A12, c12, e12, -, -, -, -, -, -⟩ := RdS.of_own hv10 (rws_one dnc_one _)
          have HE12 := hid e12
          rw [e12]
          refine hK _ _ (AnyW.any _ _) ?_
          clear hK K
          try simp only [Act.put, List.setIfInBounds_toArray, List.set_cons_zero, List.set_cons_succ]
          have HV12 : Hid (w10.ownsRow w.heap.size 83 4 v10 (k + (n - (k + 1))) (rws Dm.enc (D.take k ++ D.drop (k + 1)))) := hid (own_mono hv10 HLw.out)
          replace QC := hid (QC.out.of_grown hg10 (fun jj hj2 => .inr (own_lt V7.out jj hj2).1))
          clear hv10 hg10 hb10 e12
          refine rgn.Walk.ys (v := ?_) rfl rfl rfl ?_ ?_
          rotate_left 1
          · intro W' hW'
            go_simp
            try with_reducible rfl
          try simp only [Act.put, List.setIfInBounds_toArray, List.set_cons_zero, List.set_cons_succ]
          refine rgn.Walk.ys (v := ?_) rfl rfl rfl ?_ ?_
          rotate_left 1
          · intro W' hW'
            go_simp
            try with_reducible rfl
          try simp only [Act.put, List.setIfInBounds_toArray, List.set_cons_zero, List.set_cons_succ]
          refine rgn.Walk.es ?_
          refine rgn.stepE rfl rfl (fun K hK => ?_)
          have HOC := hid (HO4.out.only QC.out (by simp))
          have k0 := HOC.out.cell 0; have f0 := HOC.out.frozen 0
          go_simp
          refine hK _ _ (AnyW.any _ _) ?_
          clear hK K k0 f0
          try simp only [Act.put, List.setIfInBounds_toArray, List.set_cons_zero, List.set_cons_succ]
          refine rgn.Walk.zs (NoPanic.normal ?_)
          have hll : (D.take k ++ D.drop (k + 1)).length = k + (n - (k + 1)) := by rw [List.length_append, List.length_take, List.length_drop, HN.out]; omega
          have hst := dstp_put H.out (Q2.out.trans QC.out) HB.out HV12.out hll.symm
          rw [HE12.out] at hst
          obtain ⟨WZ, hWZ⟩ : ∃ x, w10.setCell ⟨g, 0, none⟩ (.slice A12 (k + (n - (k + 1))) c12) = x := ⟨_, rfl⟩
          rw [hWZ] at hst ⊢
          have HST := hid hst
          clear hst hWZ
          cases mo with
          | false =>
            go_wp2_with fail
            go_ret2
            exact ⟨none, 0, 0, [], _, _, rfl, rfl, RdS.zero _ _ _, by simp, HST.out, rfl⟩
          | true =>
            go_wp2_with fail
            go_ret2
            have oA := (Only.refl [] WZ).alloc (.cells #[.int .i64 23, .int .i64 0, .int .u32 t] 25)
            have hsz : w.heap.size ≤ WZ.heap.size := HST.out.only.size
            refine ⟨_, 1, 1, ibye t, _, _, rfl, rfl, ⟨rfl, fun u hu => ?_, fun _ => ⟨WZ.heap.size, 0, rfl, by simp, fun j u hj => ?_⟩⟩, fun b off e => ?_, ⟨HST.out.di.nil oA, HST.out.bk, HST.out.only.trans (oA.more (by simp))⟩, rfl⟩
            · simp only [ibye, List.mem_cons, List.not_mem_nil, or_false] at hu
              rcases hu with rfl | rfl | rfl <;> rfl
            · rw [Nat.zero_add, (Ob.new WZ 25 _).cell]
              rw [← hj]; unfold ibye; simp
            · injection e with e; injection e with e; omega
        · refine rgn.stepE rfl rfl (fun K hK => ?_)
          have qq := (HO4.out.only QC.out (by simp)).cell 0
          go_simp
          refine hK _ _ (AnyW.any _ _) ?_
          clear hK K qq
          try simp only [Act.put, List.setIfInBounds_toArray, List.set_cons_zero, List.set_cons_succ]
          refine rgn.Walk.ys (v := ?_) rfl rfl rfl ?_ ?_
          rotate_left 1
          · intro W' hW'
            have hs2 := HS2.out
            go_simp
            try with_reducible rfl
          try simp only [Act.put, List.setIfInBounds_toArray, List.set_cons_zero, List.set_cons_succ]
          refine rgn.Walk.es ?_
          refine rgn.stepE rfl rfl (fun K hK => ?_)
          refine opAppS _ rfl (.tmp 26) (.tmp 32) _ rfl elemDm _ (.slice (some ⟨WR.heap.size, 0, none⟩) 0 0) 0 [] rfl HE9.out (some ⟨gb, 0, none⟩) k c (rws Dm.enc (D.take k)) rfl (HR1.out.only_nil QC.out) HZ1.out HF1.out (by omega) (by unfold maxLen; omega) HSZ.out (fun v7 w7 hv7 hg7 hb7 => ?_)
          refine hK _ _ (AnyW.any _ _) ?_
          clear hK K
          try simp only [Act.put, List.setIfInBounds_toArray, List.set_cons_zero, List.set_cons_succ]
          have V7 := hid (show w7.ownsRow _ 83 4 v7 k (rws Dm.enc (D.take k)) from by simpa using hv7)
          replace QC := hid (QC.out.of_grown hg7 (fun jj hj2 => .inr (own_lt HE9.out jj hj2).1)); replace HSZ := hid QC.out.size
          clear hv7 hg7 hb7
          refine rgn.Walk.es ?_
          refine rgn.stepE rfl rfl (fun K hK => ?_)
          refine opAppS _ rfl (.tmp 33) (.tmp 40) _ rfl elemDm _ v7 k (rws Dm.enc (D.take k)) rfl V7.out A2 (n - (k + 1)) c2 (rws Dm.enc (D.drop (k + 1))) rfl (HR2.out.only_nil QC.out) HZ2.out HF2.out (by omega) (by unfold maxLen; omega) HSZ.out (fun v10 w10 hv10 hg10 hb10 => ?_)
          rw [← rws_app] at hv10
          obtain ⟨A12, c12, e12, -, -, -, -, -, -⟩ := RdS.of_own hv10 (rws_one dnc_one _)
          have HE12 := hid e12
          rw [e12]
          refine hK _ _ (AnyW.any _ _) ?_
          clear hK K
          try simp only [Act.put, List.setIfInBounds_toArray, List.set_cons_zero, List.set_cons_succ]
          have HV12 : Hid (w10.ownsRow w.heap.size 83 4 v10 (k + (n - (k + 1))) (rws Dm.enc (D.take k ++ D.drop (k + 1)))) := hid (own_mono hv10 HLw.out)
          replace QC := hid (QC.out.of_grown hg10 (fun jj hj2 => .inr (own_lt V7.out jj hj2).1))
          clear hv10 hg10 hb10 e12
          refine rgn.Walk.ys (v := ?_) rfl rfl rfl ?_ ?_
          rotate_left 1
          · intro W' hW'
            go_simp
            try with_reducible rfl
          try simp only [Act.put, List.setIfInBounds_toArray, List.set_cons_zero, List.set_cons_succ]
          refine rgn.Walk.ys (v := ?_) rfl rfl rfl ?_ ?_
          rotate_left 1
          · intro W' hW'
            go_simp
            try with_reducible rfl
          try simp only [Act.put, List.setIfInBounds_toArray, List.set_cons_zero, List.set_cons_succ]
          refine rgn.Walk.es ?_
          refine rgn.stepE rfl rfl (fun K hK => ?_)
          have HOC := hid (HO4.out.only QC.out (by simp))
          have k0 := HOC.out.cell 0; have f0 := HOC.out.frozen 0
          go_simp
          refine hK _ _ (AnyW.any _ _) ?_
          clear hK K k0 f0
          try simp only [Act.put, List.setIfInBounds_toArray, List.set_cons_zero, List.set_cons_succ]
          refine rgn.Walk.zs (NoPanic.normal ?_)
          have hll : (D.take k ++ D.drop (k + 1)).length = k + (n - (k + 1)) := by rw [List.length_append, List.length_take, List.length_drop, HN.out]; omega
          have hst := dstp_put H.out (Q2.out.trans QC.out) HB.out HV12.out hll.symm
          rw [HE12.out] at hst
          obtain ⟨WZ, hWZ⟩ : ∃ x, w10.setCell ⟨g, 0, none⟩ (.slice A12 (k + (n - (k + 1))) c12) = x := ⟨_, rfl⟩
          rw [hWZ] at hst ⊢
          have HST := hid hst
          clear hst hWZ
          cases mo with
          | false =>
            go_wp2_with fail
            go_ret2
            exact ⟨none, 0, 0, [], _, _, rfl, rfl, RdS.zero _ _ _, by simp, HST.out, rfl⟩
          | true =>
            go_wp2_with fail
            go_ret2
            have oA := (Only.refl [] WZ).alloc (.cells #[.int .i64 23, .int .i64 0, .int .u32 t] 25)
            have hsz : w.heap.size ≤ WZ.heap.size := HST.out.only.size
            refine ⟨_, 1, 1, ibye t, _, _, rfl, rfl, ⟨rfl, fun u hu => ?_, fun _ => ⟨WZ.heap.size, 0, rfl, by simp, fun j u hj => ?_⟩⟩, fun b off e => ?_, ⟨HST.out.di.nil oA, HST.out.bk, HST.out.only.trans (oA.more (by simp))⟩, rfl⟩
            · simp only [ibye, List.mem_cons, List.not_mem_nil, or_false] at hu
              rcases hu with rfl | rfl | rfl <;> rfl
            · rw [Nat.zero_add, (Ob.new WZ 25 _).cell]
              rw [← hj]; unfold ibye; simp
            · injection e with e; injection e with e; omega
      · refine rgn.stepE rfl rfl (fun K hK => ?_)
        have qq := (HO4.out.only QC.out (by simp)).cell 0
        go_simp
        refine hK _ _ (AnyW.any _ _) ?_
        clear hK K qq
        try simp only [Act.put, List.setIfInBounds_toArray, List.set_cons_zero, List.set_cons_succ]
        refine rgn.Walk.ys (v := ?_) rfl rfl rfl ?_ ?_
        rotate_left 1
        · intro W' hW'
          have hs2 := HS2.out
          go_simp
          try with_reducible rfl
        try simp only [Act.put, List.setIfInBounds_toArray, List.set_cons_zero, List.set_cons_succ]
        refine rgn.Walk.es ?_
        refine rgn.stepE rfl rfl (fun K hK => ?_)
        go_simp
        refine hK _ _ (AnyW.any _ _) ?_
        clear hK K
        try simp only [Act.put, List.setIfInBounds_toArray, List.set_cons_zero, List.set_cons_succ]
        obtain ⟨wE, hwE⟩ : ∃ x, WR.alloc (.cells #[] 83) = x := ⟨_, rfl⟩
        rw [hwE]
        have oE : Only [] WR wE := by rw [← hwE]; exact (Only.refl [] WR).alloc _
        have HE9 : Hid (wE.ownsRow w2.heap.size 83 4 (.slice (some ⟨WR.heap.size, 0, none⟩) 0 0) 0 []) := hid ⟨by simp, .inr ⟨WR.heap.size, 0, #[], rfl, HSZ.out, by rw [← hwE]; exact Ob.new _ _ _, Nat.le_refl _, by unfold maxLen; omega, by simp, by simp⟩⟩
        replace QC := hid (QC.out.trans oE); replace HSZ := hid QC.out.size
        clear oE hwE
        refine rgn.Walk.es ?_
        refine rgn.stepE rfl rfl (fun K hK => ?_)
        refine opAppS _ rfl (.tmp 26) (.tmp 32) _ rfl elemDm _ (.slice (some ⟨WR.heap.size, 0, none⟩) 0 0) 0 [] rfl HE9.out (some ⟨gb, 0, none⟩) k c (rws Dm.enc (D.take k)) rfl (HR1.out.only_nil QC.out) HZ1.out HF1.out (by omega) (by unfold maxLen; omega) HSZ.out (fun v7 w7 hv7 hg7 hb7 => ?_)
        refine hK _ _ (AnyW.any _ _) ?_
        clear hK K
        try simp only [Act.put, List.setIfInBounds_toArray, List.set_cons_zero, List.set_cons_succ]
        have V7 := hid (show w7.ownsRow _ 83 4 v7 k (rws Dm.enc (D.take k)) from by simpa using hv7)
        replace QC := hid (QC.out.of_grown hg7 (fun jj hj2 => .inr (own_lt HE9.out jj hj2).1)); replace HSZ := hid QC.out.size
        clear hv7 hg7 hb7
        refine rgn.Walk.es ?_
        refine rgn.stepE rfl rfl (fun K hK => ?_)
        refine opAppS _ rfl (.tmp 33) (.tmp 40) _ rfl elemDm _ v7 k (rws Dm.enc (D.take k)) rfl V7.out A2 (n - (k + 1)) c2 (rws Dm.enc (D.drop (k + 1))) rfl (HR2.out.only_nil QC.out) HZ2.out HF2.out (by omega) (by unfold maxLen; omega) HSZ.out (fun v10 w10 hv10 hg10 hb10 => ?_)
        rw [← rws_app] at hv10
        obtain ⟨A12, c12, e12, -, -, -, -, -, -⟩ := RdS.of_own hv10 (rws_one dnc_one _)
        have HE12 := hid e12
        rw [e12]
        refine hK _ _ (AnyW.any _ _) ?_
        clear hK K
        try simp only [Act.put, List.setIfInBounds_toArray, List.set_cons_zero, List.set_cons_succ]
        have HV12 : Hid (w10.ownsRow w.heap.size 83 4 v10 (k + (n - (k + 1))) (rws Dm.enc (D.take k ++ D.drop (k + 1)))) := hid (own_mono hv10 HLw.out)
        replace QC := hid (QC.out.of_grown hg10 (fun jj hj2 => .inr (own_lt V7.out jj hj2).1))
        clear hv10 hg10 hb10 e12
        refine rgn.Walk.ys (v := ?_) rfl rfl rfl ?_ ?_
        rotate_left 1
        · intro W' hW'
          go_simp
          try with_reducible rfl
        try simp only [Act.put, List.setIfInBounds_toArray, List.set_cons_zero, List.set_cons_succ]
        refine rgn.Walk.ys (v := ?_) rfl rfl rfl ?_ ?_
        rotate_left 1
        · intro W' hW'
          go_simp
          try with_reducible rfl
        try simp only [Act.put, List.setIfInBounds_toArray, List.set_cons_zero, List.set_cons_succ]
        refine rgn.Walk.es ?_
        refine rgn.stepE rfl rfl (fun K hK => ?_)
        have HOC := hid (HO4.out.only QC.out (by simp))
        have k0 := HOC.out.cell 0; have f0 := HOC.out.frozen 0
        go_simp
        refine hK _ _ (AnyW.any _ _) ?_
        clear hK K k0 f0
        try simp only [Act.put, List.setIfInBounds_toArray, List.set_cons_zero, List.set_cons_succ]
        refine rgn.Walk.zs (NoPanic.normal ?_)
        have hll : (D.take k ++ D.drop (k + 1)).length = k + (n - (k + 1)) := by rw [List.length_append, List.length_take, List.length_drop, HN.out]; omega
        have hst := dstp_put H.out (Q2.out.trans QC.out) HB.out HV12.out hll.symm
        rw [HE12.out] at hst
        obtain ⟨WZ, hWZ⟩ : ∃ x, w10.setCell ⟨g, 0, none⟩ (.slice A12 (k + (n - (k + 1))) c12) = x := ⟨_, rfl⟩
        rw [hWZ] at hst ⊢
        have HST := hid hst
        clear hst hWZ
        cases mo with
        | false =>
          go_wp2_with fail
          go_ret2
          exact ⟨none, 0, 0, [], _, _, rfl, rfl, RdS.zero _ _ _, by simp, HST.out, rfl⟩
        | true =>
          go_wp2_with fail
          go_ret2
          have oA := (Only.refl [] WZ).alloc (.cells #[.int .i64 23, .int .i64 0, .int .u32 t] 25)
          have hsz : w.heap.size ≤ WZ.heap.size := HST.out.only.size
          refine ⟨_, 1, 1, ibye t, _, _, rfl, rfl, ⟨rfl, fun u hu => ?_, fun _ => ⟨WZ.heap.size, 0, rfl, by simp, fun j u hj => ?_⟩⟩, fun b off e => ?_, ⟨HST.out.di.nil oA, HST.out.bk, HST.out.only.trans (oA.more (by simp))⟩, rfl⟩
          · simp only [ibye, List.mem_cons, List.not_mem_nil, or_false] at hu
            rcases hu with rfl | rfl | rfl <;> rfl
          · rw [Nat.zero_add, (Ob.new WZ 25 _).cell]
            rw [← hj]; unfold ibye; simp
          · injection e with e; injection e with e; omega
    · refine rgn.stepE rfl rfl (fun K hK => ?_)
      have qq := (HO4.out.only QC.out (by simp)).cell 0
      go_simp
      refine hK _ _ (AnyW.any _ _) ?_
      clear hK K qq
      try simp only [Act.put, List.setIfInBounds_toArray, List.set_cons_zero, List.set_cons_succ]
      refine rgn.Walk.ys (v := ?_) rfl rfl rfl ?_ ?_
      rotate_left 1
      · intro W' hW'
        have hs2 := HS2.out
        go_simp
        try with_reducible rfl
      try simp only [Act.put, List.setIfInBounds_toArray, List.set_cons_zero, List.set_cons_succ]
      refine rgn.Walk.bs ?_ ?_
      · refine rgn.stepE rfl rfl (fun K hK => ?_)
        go_simp
        refine hK _ _ (AnyW.any _ _) ?_
        clear hK K
        try simp only [Act.put, List.setIfInBounds_toArray, List.set_cons_zero, List.set_cons_succ]
        obtain ⟨wE, hwE⟩ : ∃ x, WR.alloc (.cells #[] 83) = x := ⟨_, rfl⟩
        rw [hwE]
        have oE : Only [] WR wE := by rw [← hwE]; exact (Only.refl [] WR).alloc _
        have HE9 : Hid (wE.ownsRow w2.heap.size 83 4 (.slice (some ⟨WR.heap.size, 0, none⟩) 0 0) 0 []) := hid ⟨by simp, .inr ⟨WR.heap.size, 0, #[], rfl, HSZ.out, by rw [← hwE]; exact Ob.new _ _ _, Nat.le_refl _, by unfold maxLen; omega, by simp, by simp⟩⟩
        replace QC := hid (QC.out.trans oE); replace HSZ := hid QC.out.size
        clear oE hwE
        refine rgn.Walk.es ?_
        refine rgn.stepE rfl rfl (fun K hK => ?_)
        have qq := (HO4.out.only QC.out (by simp)).cell 0
        go_simp
        refine hK _ _ (AnyW.any _ _) ?_
        clear hK K qq
        try simp only [Act.put, List.setIfInBounds_toArray, List.set_cons_zero, List.set_cons_succ]
        refine rgn.Walk.ys (v := ?_) rfl rfl rfl ?_ ?_
        rotate_left 1
        · intro W' hW'
          have hs1 := HS1.out
          go_simp
          try with_reducible rfl
        try simp only [Act.put, List.setIfInBounds_toArray, List.set_cons_zero, List.set_cons_succ]
        refine rgn.Walk.es ?_
        refine rgn.stepE rfl rfl (fun K hK => ?_)
        refine opAppS _ rfl (.tmp 26) (.tmp 32) _ rfl elemDm _ (.slice (some ⟨WR.heap.size, 0, none⟩) 0 0) 0 [] rfl HE9.out (some ⟨gb, 0, none⟩) k c (rws Dm.enc (D.take k)) rfl (HR1.out.only_nil QC.out) HZ1.out HF1.out (by omega) (by unfold maxLen; omega) HSZ.out (fun v7 w7 hv7 hg7 hb7 => ?_)
        refine hK _ _ (AnyW.any _ _) ?_
        clear hK K
        try simp only [Act.put, List.setIfInBounds_toArray, List.set_cons_zero, List.set_cons_succ]
        have V7 := hid (show w7.ownsRow _ 83 4 v7 k (rws Dm.enc (D.take k)) from by simpa using hv7)
        replace QC := hid (QC.out.of_grown hg7 (fun jj hj2 => .inr (own_lt HE9.out jj hj2).1)); replace HSZ := hid QC.out.size
        clear hv7 hg7 hb7
        refine rgn.Walk.es ?_
        refine rgn.stepE rfl rfl (fun K hK => ?_)
        refine opAppS _ rfl (.tmp 33) (.tmp 40) _ rfl elemDm _ v7 k (rws Dm.enc (D.take k)) rfl V7.out A2 (n - (k + 1)) c2 (rws Dm.enc (D.drop (k + 1))) rfl (HR2.out.only_nil QC.out) HZ2.out HF2.out (by omega) (by unfold maxLen; omega) HSZ.out (fun v10 w10 hv10 hg10 hb10 => ?_)
        rw [← rws_app] at hv10
        obtain ⟨A12, c12, e12, -, -, -, -, -, -⟩ := RdS.of_own hv10 (rws_one dnc_one _)
        have HE12 := hid e12
        rw [e12]
        refine hK _ _ (AnyW.any _ _) ?_
        clear hK K
        try simp only [Act.put, List.setIfInBounds_toArray, List.set_cons_zero, List.set_cons_succ]
        have HV12 : Hid (w10.ownsRow w.heap.size 83 4 v10 (k + (n - (k + 1))) (rws Dm.enc (D.take k ++ D.drop (k + 1)))) := hid (own_mono hv10 HLw.out)
        replace QC := hid (QC.out.of_grown hg10 (fun jj hj2 => .inr (own_lt V7.out jj hj2).1))
        clear hv10 hg10 hb10 e12
        refine rgn.Walk.ys (v := ?_) rfl rfl rfl ?_ ?_
        rotate_left 1
        · intro W' hW'
          go_simp
          try with_reducible rfl
        try simp only [Act.put, List.setIfInBounds_toArray, List.set_cons_zero, List.set_cons_succ]
        refine rgn.Walk.ys (v := ?_) rfl rfl rfl ?_ ?_
        rotate_left 1
        · intro W' hW'
          go_simp
          try with_reducible rfl
        try simp only [Act.put, List.setIfInBounds_toArray, List.set_cons_zero, List.set_cons_succ]
        refine rgn.Walk.es ?_
        refine rgn.stepE rfl rfl (fun K hK => ?_)
        have HOC := hid (HO4.out.only QC.out (by simp))
        have k0 := HOC.out.cell 0; have f0 := HOC.out.frozen 0
        go_simp
        refine hK _ _ (AnyW.any _ _) ?_
        clear hK K k0 f0
        try simp only [Act.put, List.setIfInBounds_toArray, List.set_cons_zero, List.set_cons_succ]
        refine rgn.Walk.zs (NoPanic.normal ?_)
        have hll : (D.take k ++ D.drop (k + 1)).length = k + (n - (k + 1)) := by rw [List.length_append, List.length_take, List.length_drop, HN.out]; omega
        have hst := dstp_put H.out (Q2.out.trans QC.out) HB.out HV12.out hll.symm
        rw [HE12.out] at hst
        obtain ⟨WZ, hWZ⟩ : ∃ x, w10.setCell ⟨g, 0, none⟩ (.slice A12 (k + (n - (k + 1))) c12) = x := ⟨_, rfl⟩
        rw [hWZ] at hst ⊢
        have HST := hid hst
        clear hst hWZ
        cases mo with
        | false =>
          go_wp2_with fail
          go_ret2
          exact ⟨none, 0, 0, [], _, _, rfl, rfl, RdS.zero _ _ _, by simp, HST.out, rfl⟩
        | true =>
          go_wp2_with fail
          go_ret2
          have oA := (Only.refl [] WZ).alloc (.cells #[.int .i64 23, .int .i64 0, .int .u32 t] 25)
          have hsz : w.heap.size ≤ WZ.heap.size := HST.out.only.size
          refine ⟨_, 1, 1, ibye t, _, _, rfl, rfl, ⟨rfl, fun u hu => ?_, fun _ => ⟨WZ.heap.size, 0, rfl, by simp, fun j u hj => ?_⟩⟩, fun b off e => ?_, ⟨HST.out.di.nil oA, HST.out.bk, HST.out.only.trans (oA.more (by simp))⟩, rfl⟩
          · simp only [ibye, List.mem_cons, List.not_mem_nil, or_false] at hu
            rcases hu with rfl | rfl | rfl <;> rfl
          · rw [Nat.zero_add, (Ob.new WZ 25 _).cell]
            rw [← hj]; unfold ibye; simp
          · injection e with e; injection e with e; omega
      · refine rgn.stepE rfl rfl (fun K hK => ?_)
        have qq := (HO4.out.only QC.out (by simp)).cell 0
        go_simp
        refine hK _ _ (AnyW.any _ _) ?_
        clear hK K qq
        try simp only [Act.put, List.setIfInBounds_toArray, List.set_cons_zero, List.set_cons_succ]
        refine rgn.Walk.ys (v := ?_) rfl rfl rfl ?_ ?_
        rotate_left 1
        · intro W' hW'
          have hs1 := HS1.out
          go_simp
          try with_reducible rfl
        try simp only [Act.put, List.setIfInBounds_toArray, List.set_cons_zero, List.set_cons_succ]
        refine rgn.Walk.es ?_
        refine rgn.stepE rfl rfl (fun K hK => ?_)
        go_simp
        refine hK _ _ (AnyW.any _ _) ?_
        clear hK K
        try simp only [Act.put, List.setIfInBounds_toArray, List.set_cons_zero, List.set_cons_succ]
        obtain ⟨wE, hwE⟩ : ∃ x, WR.alloc (.cells #[] 83) = x := ⟨_, rfl⟩
        rw [hwE]
        have oE : Only [] WR wE := by rw [← hwE]; exact (Only.refl [] WR).alloc _
        have HE9 : Hid (wE.ownsRow w2.heap.size 83 4 (.slice (some ⟨WR.heap.size, 0, none⟩) 0 0) 0 []) := hid ⟨by simp, .inr ⟨WR.heap.size, 0, #[], rfl, HSZ.out, by rw [← hwE]; exact Ob.new _ _ _, Nat.le_refl _, by unfold maxLen; omega, by simp, by simp⟩⟩
        replace QC := hid (QC.out.trans oE); replace HSZ := hid QC.out.size
        clear oE hwE
        refine rgn.Walk.es ?_
        refine rgn.stepE rfl rfl (fun K hK => ?_)
        refine opAppS _ rfl (.tmp 26) (.tmp 32) _ rfl elemDm _ (.slice (some ⟨WR.heap.size, 0, none⟩) 0 0) 0 [] rfl HE9.out (some ⟨gb, 0, none⟩) k c (rws Dm.enc (D.take k)) rfl (HR1.out.only_nil QC.out) HZ1.out HF1.out (by omega) (by unfold maxLen; omega) HSZ.out (fun v7 w7 hv7 hg7 hb7 => ?_)
        refine hK _ _ (AnyW.any _ _) ?_
        clear hK K
        try simp only [Act.put, List.setIfInBounds_toArray, List.set_cons_zero, List.set_cons_succ]
        have V7 := hid (show w7.ownsRow _ 83 4 v7 k (rws Dm.enc (D.take k)) from by simpa using hv7)
        replace QC := hid (QC.out.of_grown hg7 (fun jj hj2 => .inr (own_lt HE9.out jj hj2).1)); replace HSZ := hid QC.out.size
        clear hv7 hg7 hb7
        refine rgn.Walk.es ?_
        refine rgn.stepE rfl rfl (fun K hK => ?_)
        refine opAppS _ rfl (.tmp 33) (.tmp 40) _ rfl elemDm _ v7 k (rws Dm.enc (D.take k)) rfl V7.out A2 (n - (k + 1)) c2 (rws Dm.enc (D.drop (k + 1))) rfl (HR2.out.only_nil QC.out) HZ2.out HF2.out (by omega) (by unfold maxLen; omega) HSZ.out (fun v10 w10 hv10 hg10 hb10 => ?_)
        rw [← rws_app] at hv10
        obtain ⟨A12, c12, e12, -, -, -, -, -, -⟩ := RdS.of_own hv10 (rws_one dnc_one _)
        have HE12 := hid e12
        rw [e12]
        refine hK _ _ (AnyW.any _ _) ?_
        clear hK K
        try simp only [Act.put, List.setIfInBounds_toArray, List.set_cons_zero, List.set_cons_succ]
        have HV12 : Hid (w10.ownsRow w.heap.size 83 4 v10 (k + (n - (k + 1))) (rws Dm.enc (D.take k ++ D.drop (k + 1)))) := hid (own_mono hv10 HLw.out)
        replace QC := hid (QC.out.of_grown hg10 (fun jj hj2 => .inr (own_lt V7.out jj hj2).1))
        clear hv10 hg10 hb10 e12
        refine rgn.Walk.ys (v := ?_) rfl rfl rfl ?_ ?_
        rotate_left 1
        · intro W' hW'
          go_simp
          try with_reducible rfl
        try simp only [Act.put, List.setIfInBounds_toArray, List.set_cons_zero, List.set_cons_succ]
        refine rgn.Walk.ys (v := ?_) rfl rfl rfl ?_ ?_
        rotate_left 1
        · intro W' hW'
          go_simp
          try with_reducible rfl
        try simp only [Act.put, List.setIfInBounds_toArray, List.set_cons_zero, List.set_cons_succ]
        refine rgn.Walk.es ?_
        refine rgn.stepE rfl rfl (fun K hK => ?_)
        have HOC := hid (HO4.out.only QC.out (by simp))
        have k0 := HOC.out.cell 0; have f0 := HOC.out.frozen 0
        go_simp
        refine hK _ _ (AnyW.any _ _) ?_
        clear hK K k0 f0
        try simp only [Act.put, List.setIfInBounds_toArray, List.set_cons_zero, List.set_cons_succ]
        refine rgn.Walk.zs (NoPanic.normal ?_)
        have hll : (D.take k ++ D.drop (k + 1)).length = k + (n - (k + 1)) := by rw [List.length_append, List.length_take, List.length_drop, HN.out]; omega
        have hst := dstp_put H.out (Q2.out.trans QC.out) HB.out HV12.out hll.symm
        rw [HE12.out] at hst
        obtain ⟨WZ, hWZ⟩ : ∃ x, w10.setCell ⟨g, 0, none⟩ (.slice A12 (k + (n - (k + 1))) c12) = x := ⟨_, rfl⟩
        rw [hWZ] at hst ⊢
        have HST := hid hst
        clear hst hWZ
        cases mo with
        | false =>
          go_wp2_with fail
          go_ret2
          exact ⟨none, 0, 0, [], _, _, rfl, rfl, RdS.zero _ _ _, by simp, HST.out, rfl⟩
        | true =>
          go_wp2_with fail
          go_ret2
          have oA := (Only.refl [] WZ).alloc (.cells #[.int .i64 23, .int .i64 0, .int .u32 t] 25)
          have hsz : w.heap.size ≤ WZ.heap.size := HST.out.only.size
          refine ⟨_, 1, 1, ibye t, _, _, rfl, rfl, ⟨rfl, fun u hu => ?_, fun _ => ⟨WZ.heap.size, 0, rfl, by simp, fun j u hj => ?_⟩⟩, fun b off e => ?_, ⟨HST.out.di.nil oA, HST.out.bk, HST.out.only.trans (oA.more (by simp))⟩, rfl⟩
          · simp only [ibye, List.mem_cons, List.not_mem_nil, or_false] at hu
            rcases hu with rfl | rfl | rfl <;> rfl
          · rw [Nat.zero_add, (Ob.new WZ 25 _).cell]
            rw [← hj]; unfold ibye; simp
          · injection e with e; injection e with e; omega
end Go.Proofs.Ytodcjokafjdhdaa.igm
