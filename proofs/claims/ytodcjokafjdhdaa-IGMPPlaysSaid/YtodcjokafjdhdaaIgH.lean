/-
  Chapter 10 (igmp): Hear of whatever is heard, over data, by a walk of its text. Conditions: none but those typed.
-/
import Derived.Test.YtodcjokafjdhdaaIgG
namespace Go.Proofs.Ytodcjokafjdhdaa.igm
set_option linter.unusedVariables false
set_option linter.unusedSimpArgs false
open Go.ChangeShapes Go.WideShapes Go.ChangeAt Go.RowKit Go.IntWalk Go.Lib
def badM (ty mx : Int) : Prop := ty < 0 ∨ 255 < ty ∨ mx < 0 ∨ 255 < mx
instance (ty mx : Int) : Decidable (badM ty mx) := by unfold badM; infer_instance
def rep (grp : Int) (s : Gm) : Gm := if s.g = grp ∧ s.d.isSome = true then ⟨s.g, none, false⟩ else s
def reportS (grp : Int) (S : List Gm) : List Gm := S.map (rep grp)
def hearS (ty mx grp now draw : Int) (S : List Gm) : List Gm := if badM ty mx then S else if ty = 17 then queryS grp (if mx = 0 then 100 else mx) now draw S else if ty = 22 then reportS grp S else S
set_option maxRecDepth 100000 in
theorem encBad (w : World) (ty mx grp : Int) (h : badM ty mx) : Calls Try.prog 9 #[.agg #[.int .i64 ty, .int .i64 mx, .int .u32 grp]] w (EncH 1 w) := by
  have Q0 : Hid (Only [] w (w.alloc (.cells #[.int .i64 ty, .int .i64 mx, .int .u32 grp] 25))) := hid ((Only.refl [] w).alloc _)
  unfold badM at h
  by_cases h1 : ty < 0
  · clear h
    go_enter Try.func9, Try.ntmps9
    go_wp2_with fail
    go_ret2
    exact ⟨⟨_, _, _, rfl⟩, Q0.out⟩
  · by_cases h2 : 255 < ty
    · clear h
      go_enter Try.func9, Try.ntmps9
      go_wp2_with fail
      go_ret2
      exact ⟨⟨_, _, _, rfl⟩, Q0.out⟩
    · by_cases h3 : mx < 0
      · clear h
        go_enter Try.func9, Try.ntmps9
        go_wp2_with fail
        go_ret2
        exact ⟨⟨_, _, _, rfl⟩, Q0.out⟩
      · have h4 : 255 < mx := by omega
        clear h
        go_enter Try.func9, Try.ntmps9
        go_wp2_with fail
        go_ret2
        exact ⟨⟨_, _, _, rfl⟩, Q0.out⟩
theorem enc_rep : ∀ (X : List Mb) (m : Mb) (R : List Mb), ((rws Mb.enc (X ++ m :: R)).set (X.length * 3 + 1) (.pointer none)).set (X.length * 3 + 2) (.bool false) = rws Mb.enc (X ++ ⟨m.g, none, false⟩ :: R)
  | [], m, R => by simp [rws, Mb.enc]
  | a :: X, m, R => by
    have ih := enc_rep X m R
    show ((.int .u32 a.g :: .pointer (a.p.map fun b => ⟨b, 0, none⟩) :: .bool a.o :: rws Mb.enc (X ++ m :: R)).set ((X.length + 1) * 3 + 1) (.pointer none)).set ((X.length + 1) * 3 + 2) (.bool false) = .int .u32 a.g :: .pointer (a.p.map fun b => ⟨b, 0, none⟩) :: .bool a.o :: rws Mb.enc (X ++ ⟨m.g, none, false⟩ :: R)
    rw [show (X.length + 1) * 3 + 1 = X.length * 3 + 1 + 1 + 1 + 1 from by omega, show (X.length + 1) * 3 + 2 = X.length * 3 + 2 + 1 + 1 + 1 from by omega]
    simp only [List.set_cons_succ]
    rw [ih]
/-- A report of a group that is not there, or has no timer, turns nothing. -/
theorem report_no {M : List Mb} {dz : Nat → Int} {grp : Int} (h : ∀ m ∈ M, m.g = grp → m.p = none) : reportS grp (M.map (Mb.ab dz)) = M.map (Mb.ab dz) := by
  unfold reportS
  rw [List.map_map]
  apply List.map_congr_left
  intro m hm
  simp only [Function.comp, rep]
  split
  · next hc =>
    have := h m hm hc.1
    have h2 := hc.2
    simp [Mb.ab, this] at h2
  · rfl
theorem report_yes {M : List Mb} {dz : Nat → Int} {grp : Int} {i : Nat} {m : Mb} {b : Nat} (hR : Rise M) (hM : M = M.take i ++ m :: M.drop (i + 1)) (hi : i < M.length) (hg : m.g = grp) (hp : m.p = some b) : reportS grp (M.map (Mb.ab dz)) = (M.take i ++ ⟨m.g, none, false⟩ :: M.drop (i + 1)).map (Mb.ab dz) := by
  have hR2 := hR
  rw [hM] at hR2
  obtain ⟨_, p2, p3⟩ := List.pairwise_append.1 hR2
  have p4 := (List.pairwise_cons.1 p2).1
  have hid_ : ∀ L : List Mb, (∀ x ∈ L, x.g ≠ grp) → (L.map (Mb.ab dz)).map (rep grp) = L.map (Mb.ab dz) := fun L hL => by
    rw [List.map_map]
    apply List.map_congr_left
    intro x hx
    simp only [Function.comp, rep]
    rw [if_neg]
    rintro ⟨h1, _⟩
    exact hL x hx h1
  unfold reportS
  conv => lhs; rw [hM]
  rw [List.map_append, List.map_append, List.map_cons, List.map_cons, hid_ (M.take i) (fun x hx => by have := p3 x hx m (by simp); omega), hid_ (M.drop (i + 1)) (fun x hx => by have := p4 x hx; omega), List.map_append, List.map_cons]
  congr 2
  obtain ⟨mg, mp, mo⟩ := m
  simp only at hg hp
  subst hg; subst hp
  simp [rep, Mb.ab]
theorem ob_cell_ne {w : World} {g j k : Nat} {t : TypeId} {cs : Array Value} {u : Value} (h : Ob w g t cs) (hk : w.cell? ⟨g, k, none⟩ = some u) (hn : j ≠ k) (v : Value) : (w.setCell ⟨g, j, none⟩ v).cell? ⟨g, k, none⟩ = some u := by
  rw [(h.set j v).cell k, Array.getElem?_setIfInBounds_ne hn, ← h.cell k]; exact hk
theorem rep_step {w1 w' : World} {B g gb i : Nat} {F : List Nat} {S : List Gm} {v : Value} {M : List Mb} {dz : Nat → Int} {mg : Int} {mp : Option Nat} {mo : Bool} (H : HI w1 B g F S) (hF : F = g :: (v.ownBlock.toList ++ M.filterMap (·.p))) (hS : S = M.map (Mb.ab dz)) (ho : Ob w1 g 46 #[v]) (hv : w1.ownsRow B 77 3 v M.length (rws Mb.enc M)) (hD : Dues w1 dz M) (hb : v.ownBlock = some gb) (o : Only [gb] w1 w') (hi : i < M.length) (hM : M = M.take i ++ ⟨mg, mp, mo⟩ :: M.drop (i + 1)) (hv' : w'.ownsRow B 77 3 v M.length (rws Mb.enc (M.take i ++ (⟨mg, none, false⟩ : Mb) :: M.drop (i + 1)))) : ∃ F', HStep w1 B g F w' F' ((M.take i ++ (⟨mg, none, false⟩ : Mb) :: M.drop (i + 1)).map (Mb.ab dz)) := by
  have hll : (M.take i ++ (⟨mg, none, false⟩ : Mb) :: M.drop (i + 1)).length = M.length := by rw [List.length_append, List.length_cons, List.length_take, List.length_drop]; omega
  have hmem : ∀ m ∈ M.take i ++ (⟨mg, none, false⟩ : Mb) :: M.drop (i + 1), m.p = none ∨ m ∈ M := fun m hm => by
    rcases List.mem_append.1 hm with hm | hm
    · exact .inr (List.mem_of_mem_take hm)
    · rcases List.mem_cons.1 hm with rfl | hm
      · exact .inl rfl
      · exact .inr (List.mem_of_mem_drop hm)
  have hsubF : ∀ k ∈ g :: (v.ownBlock.toList ++ (M.take i ++ (⟨mg, none, false⟩ : Mb) :: M.drop (i + 1)).filterMap (·.p)), k ∈ F := fun k hk => by
    rw [hF]
    rcases List.mem_cons.1 hk with rfl | hk
    · simp
    · rcases List.mem_append.1 hk with hk | hk
      · exact List.mem_cons_of_mem _ (List.mem_append_left _ hk)
      · obtain ⟨m, hm, hp⟩ := List.mem_filterMap.1 hk
        rcases hmem m hm with h9 | h9
        · rw [h9] at hp; cases hp
        · exact List.mem_cons_of_mem _ (List.mem_append_right _ (List.mem_filterMap.2 ⟨m, h9, hp⟩))
  have hgb : g ≠ gb := fun e => ob_own ho hv (by decide) (by rw [hb, e])
  refine ⟨_, ⟨⟨v, _, dz, rfl, ho.only o (by simpa using hgb), by rw [hll]; exact hv', fun m hm b hb2 => ?_, rfl⟩, ?_, ?_, fun k hk => H.low k (hsubF k hk)⟩, fun k hk => .inl (hsubF k hk), o.more (fun k hk => by rw [hF]; refine List.mem_cons_of_mem _ (List.mem_append_left _ ?_); rw [hb]; simpa using hk)⟩
  · rcases hmem m hm with h9 | h9
    · rw [h9] at hb2; cases hb2
    · exact (hD m h9 b hb2).only o (fun hm2 => ob_own (hD m h9 b hb2) hv (by decide) (by rw [hb, show b = gb from by simpa using hm2]))
  · have hr := H.rise
    rw [hS, rise_ab] at hr
    rw [rise_ab]
    rw [hM] at hr
    unfold Rise at *
    rw [List.pairwise_append, List.pairwise_cons] at hr ⊢
    obtain ⟨a1, ⟨a2, a3⟩, a4⟩ := hr
    refine ⟨a1, ⟨a2, a3⟩, fun x hx y hy => ?_⟩
    rcases List.mem_cons.1 hy with rfl | hy
    · exact a4 x hx ⟨mg, mp, mo⟩ (by simp)
    · exact a4 x hx y (by simp [hy])
  · have := H.len; rw [hS, List.length_map] at this; rw [List.length_map, hll]; exact this
def HearH (B g : Nat) (F : List Nat) (S' : List Gm) (w : World) (x : Ending) (w' : World) : Prop := x = .returned (.tuple #[]) ∧ ∃ F', HStep w B g F w' F' S'
set_option maxRecDepth 100000 in
set_option maxHeartbeats 4000000 in
theorem hearN (w : World) (B g : Nat) (F : List Nat) (S : List Gm) (ty mx grp now draw : Int) (h : HI w B g F S) (hc : badM ty mx ∨ (ty ≠ 17 ∧ ty ≠ 22)) :
    Calls Try.prog 24 #[.pointer (some ⟨g, 0, none⟩), .agg #[.int .i64 ty, .int .i64 mx, .int .u32 grp], .int .i64 now, .int .i64 draw] w (HearH B g F S w) := by
  have H := hid h
  obtain ⟨W0, hW0⟩ : ∃ W0, w.alloc (.cells #[.int .i64 ty, .int .i64 mx, .int .u32 grp] 25) = W0 := ⟨_, rfl⟩
  have OB : Hid (Ob W0 w.heap.size 25 #[.int .i64 ty, .int .i64 mx, .int .u32 grp]) := hid (by rw [← hW0]; exact Ob.new _ _ _)
  have Q0 : Hid (Only [] w W0) := hid (by rw [← hW0]; exact (Only.refl [] w).alloc _)
  have g0 := OB.out.cell 0; have g1 := OB.out.cell 1; have g2 := OB.out.cell 2
  clear h
  by_cases hb : badM ty mx
  · have HB := hid hb
    clear hc hb
    go_enter Try.func24, Try.ntmps24
    go_wp2_with fail
    clear g0 g1 g2
    refine (encBad W0 ty mx grp HB.out).mono ?_
    rintro x w1 ⟨⟨A1, n1, c1, rfl⟩, o1⟩
    have Q1 := hid (Q0.out.trans o1)
    clear o1
    go_wp2_with fail
    refine bodyPost_end (results_none rfl _ _ _) rfl ?_
    exact ⟨rfl, F, H.out.same Q1.out⟩
  · have hc2 : ty ≠ 17 ∧ ty ≠ 22 := by
      rcases hc with hc | hc
      · exact absurd hc hb
      · exact hc
    have hb2 : (0 ≤ ty ∧ ty ≤ 255) ∧ 0 ≤ mx ∧ mx ≤ 255 := by unfold badM at hb; omega
    have z1 : (ty == 17) = false := by simpa using hc2.1
    have z2 : (ty == 22) = false := by simpa using hc2.2
    have HB2 := hid hb2
    clear hc hb hc2 hb2
    go_enter Try.func24, Try.ntmps24
    go_wp2_with fail
    clear g0 g1 g2
    refine (encOK W0 ty mx grp HB2.out.1 HB2.out.2).mono ?_
    rintro x w1 ⟨⟨A1, n1, c1, rfl⟩, o1⟩
    have Q1 := hid (Q0.out.trans o1); have OB1 := hid (OB.out.only o1 (by simp))
    have g0 := OB1.out.cell 0; have g1 := OB1.out.cell 1; have g2 := OB1.out.cell 2
    clear o1
    go_wp2_with fail
    refine bodyPost_end (results_none rfl _ _ _) rfl ?_
    exact ⟨rfl, F, H.out.same Q1.out⟩
set_option maxRecDepth 100000 in
set_option maxHeartbeats 8000000 in
theorem hearR (w : World) (B g : Nat) (F : List Nat) (S : List Gm) (mx grp now draw : Int) (h : HI w B g F S) (hmx : 0 ≤ mx ∧ mx ≤ 255) :
    Calls Try.prog 24 #[.pointer (some ⟨g, 0, none⟩), .agg #[.int .i64 22, .int .i64 mx, .int .u32 grp], .int .i64 now, .int .i64 draw] w (HearH B g F (reportS grp S) w) := by
  have H := hid h
  obtain ⟨W0, hW0⟩ : ∃ W0, w.alloc (.cells #[.int .i64 22, .int .i64 mx, .int .u32 grp] 25) = W0 := ⟨_, rfl⟩
  have OB : Hid (Ob W0 w.heap.size 25 #[.int .i64 22, .int .i64 mx, .int .u32 grp]) := hid (by rw [← hW0]; exact Ob.new _ _ _)
  have Q0 : Hid (Only [] w W0) := hid (by rw [← hW0]; exact (Only.refl [] w).alloc _)
  have g0 := OB.out.cell 0; have g1 := OB.out.cell 1; have g2 := OB.out.cell 2
  clear h
  go_enter Try.func24, Try.ntmps24
  go_wp2_with fail
  clear g0 g1 g2
  refine (encOK W0 22 mx grp (by omega) hmx).mono ?_
  rintro x w1 ⟨⟨A1, n1, c1, rfl⟩, o1⟩
  have Q1 := hid (Q0.out.trans o1); have OB1 := hid (OB.out.only o1 (by simp))
  have g0 := OB1.out.cell 0; have g1 := OB1.out.cell 1; have g2 := OB1.out.cell 2
  clear o1
  go_wp2_with fail
  clear g0 g1 g2
  have H1 := hid (H.out.nil Q1.out)
  obtain ⟨v, M, dz, hF, ho, hv, hD, hS⟩ := H1.out.ex
  have hlen : M.length ≤ 16 := by have := H1.out.len; rw [hS] at this; simpa using this
  have hR : Rise M := (rise_ab dz M).1 (by rw [← hS]; exact H1.out.rise)
  obtain ⟨A, c, ev, -, -, -, hr, -, -⟩ := RdS.of_own hv (rws_one enc_one _)
  have HF := hid hF; have HO := hid ho; have HV := hid hv; have HD := hid hD; have HEV := hid ev; have HS := hid hS
  have HR := hid hR
  have ho2 := ho
  rw [ev] at ho2
  refine (find1 w1 g A M M.length c grp ho2 hr rfl hR (by omega)).mono ?_
  rintro x w2 ⟨rfl, o2⟩
  have Q2 := hid (Q1.out.trans o2)
  cases hh : has M grp with
  | false =>
    have HE : Hid (reportS grp S = S) := hid (by
      rw [hS]
      refine report_no (fun m hm he => ?_)
      have := (has_iff hR grp).2 ⟨m, hm, he⟩
      rw [hh] at this; cases this)
    clear hF ho hv hD ev hS hR hr ho2 o2
    go_wp2_with fail
    refine bodyPost_end (results_none rfl _ _ _) rfl ?_
    rw [HE.out]
    exact ⟨rfl, F, H.out.same Q2.out⟩
  | true =>
    obtain ⟨hk, hg⟩ := has_at hh
    obtain ⟨i, hi⟩ : ∃ i, spot M grp = i := ⟨_, rfl⟩
    simp only [hi] at hk hg
    obtain ⟨mm, hmm⟩ : ∃ mm, M[i] = mm := ⟨_, rfl⟩
    have HM : Hid (M = M.take i ++ mm :: M.drop (i + 1)) := hid (by rw [← hmm, ← List.drop_eq_getElem_cons hk, List.take_append_drop])
    have HKL := hid hk
    have HLK : Hid ((M.take i).length = i) := hid (by rw [List.length_take]; omega)
    have hr2 := hr
    rw [HM.out] at hr2
    obtain ⟨gb, hgb⟩ : ∃ gb, A = some ⟨gb, 0, none⟩ := by
      rcases hv.2 with ⟨h9, h8⟩ | ⟨p, cap, cur, h9, _⟩
      · omega
      · rw [ev] at h9; injection h9 with h9; exact ⟨p, h9⟩
    subst hgb
    obtain ⟨_, c1, c2⟩ := mid_cell hr2 (by rw [← HM.out]) HLK.out
    rw [hmm] at hg
    have HG := hid hg
    have HMem : Hid (mm ∈ M) := hid (by rw [← hmm]; exact List.getElem_mem hk)
    obtain ⟨mg, mp, mo⟩ := mm
    have QX := hid o2; have HC1 := hid (o2.keep c1); have HC2 := hid (o2.keep c2)
    have HO2 := hid (ho2.only o2 (by simp)); have HV2 := hid (own_only_nil hv o2)
    have hi16 : i < 16 := by omega
    have hil : (i : Int) < (M.length : Int) := by omega
    have hiN : i < M.length := hk
    rw [hi]
    cases mp with
    | none =>
      have HE : Hid (reportS grp S = S) := hid (by
        rw [hS]
        refine report_no (fun m hm he => ?_)
        obtain ⟨j, hj, hje⟩ := List.getElem_of_mem hm
        have hmi : M[i] = ⟨mg, none, mo⟩ := hmm
        rcases Nat.lt_trichotomy j i with h9 | h9 | h9
        · have h8 := hR.lt hk h9
          rw [hje, hmi] at h8
          simp only at h8 hg; omega
        · subst h9
          rw [← hje, hmi]
        · have h8 := hR.lt hj h9
          rw [hje, hmi] at h8
          simp only at h8 hg; omega)
      have k0 := HO2.out.cell 0
      have k1 : w2.cell? ⟨gb, i * 3 + 1, none⟩ = some (.pointer none) := HC1.out
      clear hF ho hv hD ev hS hR hr ho2 o2 hr2 c1 c2 hmm hg hk
      go_wp2_with fail
      refine bodyPost_end (results_none rfl _ _ _) rfl ?_
      rw [HE.out]
      exact ⟨rfl, F, H.out.same Q2.out⟩
    | some bq =>
      have HE : Hid (reportS grp S = (M.take i ++ (⟨mg, none, false⟩ : Mb) :: M.drop (i + 1)).map (Mb.ab dz)) := hid (by
        rw [hS]; exact report_yes hR HM.out hk hg rfl)
      have k0 := HO2.out.cell 0
      have k1 : w2.cell? ⟨gb, i * 3 + 1, none⟩ = some (.pointer (some ⟨bq, 0, none⟩)) := HC1.out
      obtain ⟨cur, hcur⟩ : ∃ cur, Ob w2 gb 77 cur := by
        rcases HV2.out.2 with ⟨h9, _⟩ | ⟨p, cap, cur, h9, _, hh2, _⟩
        · rw [ev] at h9; cases h9
        · rw [ev] at h9; injection h9 with e1 _ _; injection e1 with e1; injection e1 with e1; subst e1
          exact ⟨cur, hh2⟩
      have HCU := hid hcur
      have HNE : Hid (g ≠ gb) := hid (fun e => ob_ne HO2.out hcur (by decide) e)
      clear hF ho hv hD ev hS hR hr ho2 o2 hr2 c1 c2 hmm hg hk hcur
      go_wp2_with fail
      clear k0 k1
      refine wp_region_noPanic ?_
      refine rgn.regionT (R := Only [gb]) (by kernel_rfl) (Only.refl [gb]) (fun _ _ _ => Only.trans) (fun _ _ _ _ _ h => h) (.y 0 (.y 1 (.y 2 (.y 3 (.y 4 (.y 5 (.y 6 (.y 7 (.y 8 (.y 9 (.y 10 (.y 11 (.e 12 (.y 13 (.y 14 (.e 15 .z)))))))))))))))) (by kernel_rfl) (fun W hWd => ?_)
      have HWd := hid hWd; clear hWd
      have q8 : Only [] w2 W := Only.eq_drew (Only.refl [] _) HWd.out
      have HOW := hid (HO2.out.only q8 (by simp)); have HCW := hid (HCU.out.only q8 (by simp))
      have HVW := hid (own_only_nil HV2.out q8)
      rw [HEV.out] at HVW
      have HK1 := hid (q8.keep HC1.out); have HK2 := hid (q8.keep HC2.out)
      have QW := hid (show Only [gb] w2 W from q8.more (by simp))
      clear q8 HWd
      refine rgn.Walk.ys (v := ?_) rfl rfl rfl ?_ ?_
      rotate_left 1
      · intro W' hW'
        go_simp
        try with_reducible rfl
      try simp only [Act.put, List.setIfInBounds_toArray, List.set_cons_zero, List.set_cons_succ]
      refine rgn.Walk.ys (v := ?_) rfl rfl rfl ?_ ?_
      rotate_left 1
      · intro W' hW'
        go_simp
        try with_reducible rfl
      try simp only [Act.put, List.setIfInBounds_toArray, List.set_cons_zero, List.set_cons_succ]
      refine rgn.Walk.ys (v := ?_) rfl rfl rfl ?_ ?_
      rotate_left 1
      · intro W' hW'
        go_simp
        try with_reducible rfl
      try simp only [Act.put, List.setIfInBounds_toArray, List.set_cons_zero, List.set_cons_succ]
      refine rgn.Walk.ys (v := ?_) rfl rfl rfl ?_ ?_
      rotate_left 1
      · intro W' hW'
        have q0 := (HOW.out.only hW' (by simpa using HNE.out)).cell 0
        go_simp
        try with_reducible rfl
      try simp only [Act.put, List.setIfInBounds_toArray, List.set_cons_zero, List.set_cons_succ]
      refine rgn.Walk.ys (v := ?_) rfl rfl rfl ?_ ?_
      rotate_left 1
      · intro W' hW'
        go_simp
        try with_reducible rfl
      try simp only [Act.put, List.setIfInBounds_toArray, List.set_cons_zero, List.set_cons_succ]
      refine rgn.Walk.ys (v := ?_) rfl rfl rfl ?_ ?_
      rotate_left 1
      · intro W' hW'
        go_simp
        try with_reducible rfl
      try simp only [Act.put, List.setIfInBounds_toArray, List.set_cons_zero, List.set_cons_succ]
      refine rgn.Walk.ys (v := ?_) rfl rfl rfl ?_ ?_
      rotate_left 1
      · intro W' hW'
        go_simp
        try with_reducible rfl
      try simp only [Act.put, List.setIfInBounds_toArray, List.set_cons_zero, List.set_cons_succ]
      refine rgn.Walk.ys (v := ?_) rfl rfl rfl ?_ ?_
      rotate_left 1
      · intro W' hW'
        go_simp
        try with_reducible rfl
      try simp only [Act.put, List.setIfInBounds_toArray, List.set_cons_zero, List.set_cons_succ]
      refine rgn.Walk.ys (v := ?_) rfl rfl rfl ?_ ?_
      rotate_left 1
      · intro W' hW'
        have q0 := (HOW.out.only hW' (by simpa using HNE.out)).cell 0
        go_simp
        try with_reducible rfl
      try simp only [Act.put, List.setIfInBounds_toArray, List.set_cons_zero, List.set_cons_succ]
      refine rgn.Walk.ys (v := ?_) rfl rfl rfl ?_ ?_
      rotate_left 1
      · intro W' hW'
        go_simp
        try with_reducible rfl
      try simp only [Act.put, List.setIfInBounds_toArray, List.set_cons_zero, List.set_cons_succ]
      refine rgn.Walk.ys (v := ?_) rfl rfl rfl ?_ ?_
      rotate_left 1
      · intro W' hW'
        go_simp
        try with_reducible rfl
      try simp only [Act.put, List.setIfInBounds_toArray, List.set_cons_zero, List.set_cons_succ]
      refine rgn.Walk.ys (v := ?_) rfl rfl rfl ?_ ?_
      rotate_left 1
      · intro W' hW'
        go_simp
        try with_reducible rfl
      try simp only [Act.put, List.setIfInBounds_toArray, List.set_cons_zero, List.set_cons_succ]
      refine rgn.Walk.es ?_
      refine rgn.stepE rfl rfl (fun K hK => ?_)
      have kk := HK1.out; have ff := (HCW.out).frozen (i * 3 + 1)
      go_simp
      refine hK _ _ ((Only.refl [gb] _).setCell (p := ⟨gb, i * 3 + 1, none⟩) (Or.inl (by simp)) _) ?_
      clear hK K kk ff
      try simp only [Act.put, List.setIfInBounds_toArray, List.set_cons_zero, List.set_cons_succ]
      obtain ⟨wa, hwa⟩ : ∃ x, W.setCell ⟨gb, i * 3 + 1, none⟩ (.pointer none) = x := ⟨_, rfl⟩
      rw [hwa]
      replace HK2 := hid (show wa.cell? ⟨gb, i * 3 + 2, none⟩ = some (.bool mo) from by rw [← hwa]; exact ob_cell_ne HCW.out HK2.out (by omega) _)
      replace HCW := hid (show Ob wa gb 77 _ from by rw [← hwa]; exact HCW.out.set (i * 3 + 1) (.pointer none))
      replace HVW := hid (show wa.ownsRow B 77 3 (.slice (some ⟨gb, 0, none⟩) M.length c) M.length _ from by rw [← hwa]; exact (World.ownsRow.stored HVW.out (i * 3 + 1) (.pointer none)).1)
      have oX : Only [gb] W wa := by rw [← hwa]; exact (Only.refl [gb] W).setCell (p := ⟨gb, i * 3 + 1, none⟩) (Or.inl (by simp)) _
      replace QW := hid (QW.out.trans oX)
      clear oX
      refine rgn.Walk.ys (v := ?_) rfl rfl rfl ?_ ?_
      rotate_left 1
      · intro W' hW'
        go_simp
        try with_reducible rfl
      try simp only [Act.put, List.setIfInBounds_toArray, List.set_cons_zero, List.set_cons_succ]
      refine rgn.Walk.ys (v := ?_) rfl rfl rfl ?_ ?_
      rotate_left 1
      · intro W' hW'
        go_simp
        try with_reducible rfl
      try simp only [Act.put, List.setIfInBounds_toArray, List.set_cons_zero, List.set_cons_succ]
      refine rgn.Walk.es ?_
      refine rgn.stepE rfl rfl (fun K hK => ?_)
      have kk := HK2.out; have ff := (HCW.out).frozen (i * 3 + 2)
      go_simp
      refine hK _ _ ((Only.refl [gb] _).setCell (p := ⟨gb, i * 3 + 2, none⟩) (Or.inl (by simp)) _) ?_
      clear hK K kk ff
      try simp only [Act.put, List.setIfInBounds_toArray, List.set_cons_zero, List.set_cons_succ]
      obtain ⟨wb, hwb⟩ : ∃ x, wa.setCell ⟨gb, i * 3 + 2, none⟩ (.bool false) = x := ⟨_, rfl⟩
      rw [hwb]
      replace HCW := hid (show Ob wb gb 77 _ from by rw [← hwb]; exact HCW.out.set (i * 3 + 2) (.bool false))
      replace HVW := hid (show wb.ownsRow B 77 3 (.slice (some ⟨gb, 0, none⟩) M.length c) M.length _ from by rw [← hwb]; exact (World.ownsRow.stored HVW.out (i * 3 + 2) (.bool false)).1)
      have oX : Only [gb] wa wb := by rw [← hwb]; exact (Only.refl [gb] wa).setCell (p := ⟨gb, i * 3 + 2, none⟩) (Or.inl (by simp)) _
      replace QW := hid (QW.out.trans oX)
      clear oX
      refine rgn.Walk.zs (NoPanic.normal ?_)
      have HST : Hid (∃ F', HStep w1 B g F wb F' ((M.take i ++ (⟨mg, none, false⟩ : Mb) :: M.drop (i + 1)).map (Mb.ab dz))) := hid (by
        have hes := enc_rep (M.take i) ⟨mg, some bq, mo⟩ (M.drop (i + 1))
        rw [HLK.out, ← HM.out] at hes
        have hvv := HVW.out
        first | rw [hes] at hvv | rw [List.set_comm _ _ (by omega), hes] at hvv
        rw [← HEV.out] at hvv
        exact rep_step H1.out HF.out HS.out HO.out HV.out HD.out (by rw [HEV.out]; rfl) ((QX.out.more (by simp)).trans QW.out) HKL.out HM.out hvv)
      go_wp2_with fail
      refine bodyPost_end (results_none rfl _ _ _) rfl ?_
      rw [HE.out]
      obtain ⟨F', hs⟩ := HST.out
      exact ⟨rfl, F', hs.from Q1.out⟩
end Go.Proofs.Ytodcjokafjdhdaa.igm
