/-
  Chapter 10 (igmp): Hear of a Query, what is known, and the law IGMPAnswers, by a walk of each text. Conditions: none but those typed.
-/
import Derived.Test.YtodcjokafjdhdaaIgE
namespace Go.Proofs.Ytodcjokafjdhdaa.igm
set_option linter.unusedVariables false
set_option linter.unusedSimpArgs false
open Go.ChangeShapes Go.WideShapes Go.ChangeAt Go.RowKit Go.IntWalk Go.Lib
theorem HStep.from {w w1 w' : World} {B g : Nat} {F F' : List Nat} {S' : List Gm} (s : HStep w1 B g F w' F' S') (o : Only [] w w1) : HStep w B g F w' F' S' := ⟨s.hi, fun k hk => (s.bk k hk).imp id (fun h => Nat.le_trans o.size h), (o.more (by simp)).trans s.only⟩
theorem QI.hstep {w w' : World} {B g : Nat} {v : Value} {M : List Mb} {dz : Nat → Int} {F : List Nat} {f : Nat → Gm → Gm} (H : HI w B g F (M.map (Mb.ab dz))) (hF : F = g :: (v.ownBlock.toList ++ M.filterMap (·.p))) (h : QI w w' B v M dz f M.length) (ho : Ob w' g 46 #[v]) (hf : ∀ i s, (f i s).g = s.g) (hB : B ≤ w.heap.size) : ∃ F', HStep w B g F w' F' ((M.map (Mb.ab dz)).mapIdx f) := by
  obtain ⟨M', dz', h1, h2, h3, h4, h5, h6⟩ := h
  have e3 : M'.map (Mb.ab dz') = (M.map (Mb.ab dz)).mapIdx f := by
    rw [h3, List.take_of_length_le (by simp), List.drop_of_length_le (by simp), List.append_nil]
  have hsub : ∀ k ∈ g :: (v.ownBlock.toList ++ M'.filterMap (·.p)), k ∈ F ∨ w.heap.size ≤ k := fun k hk => by
    rw [hF]
    rcases List.mem_cons.1 hk with rfl | hk
    · exact .inl (by simp)
    · rcases List.mem_append.1 hk with hk | hk
      · exact .inl (List.mem_cons_of_mem _ (List.mem_append_left _ hk))
      · exact (h4 k hk).imp (fun h => List.mem_cons_of_mem _ (List.mem_append_right _ h)) id
  refine ⟨_, ⟨⟨v, M', dz', rfl, ho, h1, h2, e3.symm⟩, ?_, ?_, fun k hk => ?_⟩, hsub, h6.more (fun k hk => by rw [hF]; exact List.mem_cons_of_mem _ (List.mem_append_left _ hk))⟩
  · have hr := H.rise
    unfold RiseS at *
    rw [List.pairwise_iff_getElem] at *
    intro i j hi hj hij
    have := hr i j (by simpa using hi) (by simpa using hj) hij
    simpa [hf] using this
  · have := H.len; simpa using this
  · rcases hsub k hk with h | h
    · exact H.low k h
    · omega
def HearE (B g : Nat) (F : List Nat) (S' : List Gm) (w : World) (x : Ending) (w' : World) : Prop := x = .returned (.tuple #[]) ∧ ∃ F', HStep w B g F w' F' S'
set_option maxRecDepth 100000 in
set_option maxHeartbeats 4000000 in
theorem hearQ (w : World) (B g : Nat) (F : List Nat) (S : List Gm) (mx grp mo now draw : Int) (h : HI w B g F S) (hB : B ≤ w.heap.size) (hmx : 0 ≤ mx ∧ mx ≤ 255) (hmo : mo = if mx = 0 then 100 else mx) (hnow : -9223372036854775808 ≤ now ∧ now ≤ 9223372036854775807) (hdr : draw ≤ 9223372036854775807) :
    Calls Try.prog 24 #[.pointer (some ⟨g, 0, none⟩), .agg #[.int .i64 17, .int .i64 mx, .int .u32 grp], .int .i64 now, .int .i64 draw] w (HearE B g F (queryS grp mo now draw S) w) := by
  have H := hid h
  obtain ⟨W0, hW0⟩ : ∃ W0, w.alloc (.cells #[.int .i64 17, .int .i64 mx, .int .u32 grp] 25) = W0 := ⟨_, rfl⟩
  have OB : Hid (Ob W0 w.heap.size 25 #[.int .i64 17, .int .i64 mx, .int .u32 grp]) := hid (by rw [← hW0]; exact Ob.new _ _ _)
  have Q0 : Hid (Only [] w W0) := hid (by rw [← hW0]; exact (Only.refl [] w).alloc _)
  have g0 := OB.out.cell 0; have g1 := OB.out.cell 1; have g2 := OB.out.cell 2
  have HBs := hid hB; have HMO := hid hmo
  clear h hB hmo
  go_enter Try.func24, Try.ntmps24
  go_wp2_with fail
  clear g0 g1 g2
  refine (encOK W0 17 mx grp (by omega) hmx).mono ?_
  rintro x w1 ⟨⟨A1, n1, c1, rfl⟩, o1⟩
  have Q1 := hid (Q0.out.trans o1); have OB1 := hid (OB.out.only o1 (by simp))
  have g0 := OB1.out.cell 0; have g1 := OB1.out.cell 1; have g2 := OB1.out.cell 2
  clear o1
  go_wp2_with fail
  clear g0 g1 g2
  have H1 := hid (H.out.nil Q1.out)
  obtain ⟨v, M, dz, hF, ho, hv, hD, hS⟩ := H1.out.ex
  refine (query1 w1 B g v M dz 17 mx grp mo now draw ho hv hD (by have := H1.out.len; rw [hS] at this; simpa using this) hmx HMO.out hnow hdr).mono ?_
  rintro x w2 ⟨rfl, ho2, hq⟩
  have HE : Hid (∃ F', HStep w1 B g F w2 F' (queryS grp mo now draw S)) := hid (by
    have h9 := H1.out
    rw [hS] at h9 ⊢
    exact QI.hstep h9 hF hq ho2 (fun i s => qry_g _ _ _ _ _ _) (Nat.le_trans HBs.out Q1.out.size))
  clear hF ho hv hD hS ho2 hq
  go_wp2_with fail
  refine bodyPost_end (results_none rfl _ _ _) rfl ?_
  obtain ⟨F', hs⟩ := HE.out
  exact ⟨rfl, F', hs.from Q1.out⟩
set_option maxRecDepth 100000 in
set_option maxHeartbeats 4000000 in
theorem known1 (w : World) : Calls Try.prog 12 #[] w fun x w' => x = .returned (.bool true) ∧ Only [] w w' := by
  obtain ⟨W0, hW0⟩ : ∃ W0, w.alloc (.cells #[.slice none 0 0] 46) = W0 := ⟨_, rfl⟩
  have H0 : Hid (HI W0 w.heap.size w.heap.size [w.heap.size] []) := hid (by rw [← hW0]; exact HI.new w _ (Nat.le_refl _))
  have Q0 : Hid (Only [] w W0) := hid (by rw [← hW0]; exact (Only.refl [] w).alloc _)
  go_enter Try.func12, Try.ntmps12
  go_wp2_with fail
  clear hW0
  refine (joinH W0 w.heap.size w.heap.size _ _ 3758162177 5 3 H0.out Q0.out.size (by omega) (by omega)).mono ?_
  rintro x w1 ⟨A1, n1, c1, cs, F1, rfl, hcs, hr, hA, hs⟩
  have e0 : joinE [] 3758162177 = 0 := by decide
  have eS : joinS [] 3758162177 5 3 = [⟨3758162177, some 9, true⟩] := by
    unfold joinS; rw [if_pos e0]; rfl
  rw [e0, if_pos rfl] at hcs
  injection hcs with hc1 hc2
  subst hc1; subst hc2
  rw [eS] at hs
  rw [e0]
  obtain ⟨rb, off, rfl, hrb, hcell⟩ := hr.cells (by omega)
  have k0 := hcell 0 _ rfl
  rw [Nat.add_zero] at k0
  have H1 := hid hs.hi; have Q1 := hid (hs.quiet H0.out Q0.out (Nat.le_refl _))
  clear hr hA hs hcell hrb
  go_wp2_with fail
  clear k0
  refine (tickH w1 w.heap.size w.heap.size F1 _ 8 H1.out).mono ?_
  rintro x w2 ⟨A2, c2, F2, rfl, -, -, hs⟩
  have er : rptS 8 [⟨3758162177, some 9, true⟩] = [] := by decide
  have et : tickS 8 [⟨3758162177, some 9, true⟩] = [⟨3758162177, some 9, true⟩] := by rfl
  rw [er]
  rw [et] at hs
  have H2 := hid hs.hi; have Q2 := hid (hs.quiet H1.out Q1.out (Nat.le_refl _))
  clear hs
  go_wp2_with fail
  refine (tickH w2 w.heap.size w.heap.size F2 _ 9 H2.out).mono ?_
  rintro x w3 ⟨A3, c3, F3, rfl, -, -, hs⟩
  have er : rptS 9 [⟨3758162177, some 9, true⟩] = [3758162177] := by decide
  rw [er]
  have Q3 := hid (hs.quiet H2.out Q2.out (Nat.le_refl _))
  clear hs
  go_wp2_with fail
  go_ret
  exact ⟨rfl, Q3.out⟩
/-- All timers stand, soon. -/
def Soon (S : List Gm) : Prop := ∀ s ∈ S, ∃ x, s.d = some x ∧ x ≤ 1000
theorem soon_join {S : List Gm} (h : Soon S) (t draw : Int) : Soon (joinS S t 0 draw) := by
  unfold joinS
  split
  · intro s hs
    unfold insL at hs
    rcases List.mem_append.1 hs with hs | hs
    · exact h s (List.mem_of_mem_take hs)
    · rcases List.mem_cons.1 hs with rfl | hs
      · refine ⟨_, rfl, ?_⟩
        have := dly_le draw.toNat (spotS S t) 10 (by omega)
        unfold laterZ
        split <;> omega
      · exact h s (List.mem_of_mem_drop hs)
  · exact h
theorem len_join (S : List Gm) (t now draw : Int) : (joinS S t now draw).length = S.length + if joinE S t = 0 then 1 else 0 := by
  unfold joinS
  split
  · rw [insL_len]
  · rfl
/-- When the i-th group is due. -/
def due (much draw : Int) (i : Nat) : Int := 1000 + (dly draw.toNat i much.toNat : Nat)
/-- The groups at a tick. -/
def stt (S : List Gm) (much draw t : Int) : List Gm := S.mapIdx fun i s => ⟨s.g, if due much draw i < t then none else some (due much draw i), true⟩
theorem tk_sg (g x t : Int) : Gm.tk t ⟨g, if x < t then none else some x, true⟩ = ⟨g, if x < t + 1 then none else some x, true⟩ := by
  by_cases h : x < t
  · rw [if_pos h, if_pos (show x < t + 1 by omega)]; rfl
  · rw [if_neg h]
    by_cases h2 : x ≤ t
    · rw [if_pos (show x < t + 1 by omega)]; simp [Gm.tk, Gm.fires, h2]
    · rw [if_neg (show ¬ x < t + 1 by omega)]; simp [Gm.tk, Gm.fires, h2]
theorem stt_len (S : List Gm) (much draw t : Int) : (stt S much draw t).length = S.length := by unfold stt; simp
theorem stt_at (S : List Gm) (much draw t : Int) (i : Nat) (h : i < S.length) : (stt S much draw t)[i]'(by rw [stt_len]; exact h) = ⟨(S[i]).g, if due much draw i < t then none else some (due much draw i), true⟩ := by
  unfold stt; rw [List.getElem_mapIdx]
theorem stt_mem {S : List Gm} {much draw t : Int} {s : Gm} (h : s ∈ stt S much draw t) : ∃ (i : Nat) (g : Int), i < S.length ∧ s = ⟨g, if due much draw i < t then none else some (due much draw i), true⟩ := by
  obtain ⟨i, hi, rfl⟩ := List.getElem_of_mem h
  rw [stt_len] at hi
  exact ⟨i, _, hi, stt_at S much draw t i hi⟩
theorem due_bd {much draw : Int} (hm : 1 ≤ much) (i : Nat) : 1001 ≤ due much draw i ∧ due much draw i ≤ 1000 + much := by
  have := dly_le draw.toNat i much.toNat (by omega)
  unfold due; omega
theorem stt_start {S : List Gm} (h : Soon S) {much draw : Int} (hm : 1 ≤ much ∧ much ≤ 255) : queryS 0 much 1000 draw (tickS 1000 S) = stt S much draw 1001 := by
  unfold queryS tickS
  apply List.ext_getElem
  · rw [stt_len]; simp
  · intro i h1 h2
    have hi : i < S.length := by rwa [stt_len] at h2
    rw [stt_at S much draw 1001 i hi]
    obtain ⟨x, hx, hx2⟩ := h _ (List.getElem_mem hi)
    have hd := due_bd (draw := draw) hm.1 i
    have hf : (S[i]).fires 1000 = true := by unfold Gm.fires; rw [hx]; exact decide_eq_true hx2
    have hl : laterZ 1000 (dly draw.toNat i much.toNat : Nat) = due much draw i := by
      unfold laterZ due at *; rw [if_neg (by omega)]
    have htk : (S[i]).tk 1000 = ⟨(S[i]).g, none, true⟩ := by unfold Gm.tk; rw [hf]; rfl
    rw [if_neg (show ¬ due much draw i < 1001 by omega)]
    rw [List.getElem_mapIdx, List.getElem_map, htk]
    unfold qry
    rw [if_neg (by simp), hl]
theorem stt_tick (S : List Gm) (much draw t : Int) : tickS t (stt S much draw t) = stt S much draw (t + 1) := by
  unfold tickS
  apply List.ext_getElem
  · simp [stt_len]
  · intro i h1 h2
    have hi : i < S.length := by rwa [stt_len] at h2
    rw [stt_at S much draw (t + 1) i hi]
    rw [List.getElem_map, stt_at S much draw t i hi]
    exact tk_sg _ _ _
/-- How many were told ahead of a tick. -/
def tld (S : List Gm) (much draw t : Int) : Nat := (stt S much draw t).countP fun s => s.d.isNone
theorem tld_step (S : List Gm) (much draw t : Int) : tld S much draw (t + 1) = tld S much draw t + (rptS t (stt S much draw t)).length := by
  unfold tld rptS
  rw [← stt_tick, tickS, List.countP_map, List.length_map, ← List.countP_eq_length_filter]
  have hgen : ∀ L : List Gm, (L.countP ((fun s : Gm => s.d.isNone) ∘ Gm.tk t)) = L.countP (fun s => s.d.isNone) + L.countP (Gm.fires t) := by
    intro L
    induction L with
    | nil => rfl
    | cons a L ih =>
      obtain ⟨g, d, o⟩ := a
      simp only [List.countP_cons, ih, Function.comp, Gm.tk, Gm.fires]
      cases d with
      | none => simp; omega
      | some x =>
        by_cases hx : x ≤ t
        · simp [hx]; omega
        · simp [hx]
  exact hgen _
theorem tld_start {S : List Gm} {much draw : Int} (hm : 1 ≤ much) : tld S much draw 1001 = 0 := by
  unfold tld
  rw [List.countP_eq_zero]
  intro s hs
  obtain ⟨i, g, hi, rfl⟩ := stt_mem hs
  have := due_bd (draw := draw) hm i
  rw [if_neg (show ¬ due much draw i < 1001 by omega)]
  simp
theorem tld_end {S : List Gm} {much draw t : Int} (hm : 1 ≤ much) (ht : 1000 + much < t) : tld S much draw t = S.length ∧ rptS 100000 (stt S much draw t) = [] := by
  have hall : ∀ s ∈ stt S much draw t, s.d = none := fun s hs => by
    obtain ⟨i, g, hi, rfl⟩ := stt_mem hs
    have := due_bd (draw := draw) hm i
    show (if due much draw i < t then none else some (due much draw i)) = none
    rw [if_pos (show due much draw i < t by omega)]
  constructor
  · unfold tld
    rw [List.countP_eq_length.2 (fun s hs => by rw [hall s hs]; rfl), stt_len]
  · unfold rptS
    rw [List.map_eq_nil_iff, List.filter_eq_nil_iff]
    intro s hs
    unfold Gm.fires
    rw [hall s hs]; simp
theorem tld_le (S : List Gm) (much draw t : Int) : tld S much draw t ≤ S.length := by
  unfold tld
  refine Nat.le_trans List.countP_le_length ?_
  unfold stt; simp
theorem rpt_len (now : Int) (S : List Gm) : (rptS now S).length ≤ S.length := by unfold rptS; rw [List.length_map]; exact List.length_filter_le _ _
set_option maxRecDepth 100000 in
set_option maxHeartbeats 8000000 in
theorem answers (w : World) (A : Option Addr) (len c : Nat) (G : List Int) (much draw : Int) (hG : Rd .u32 w A len G) (hmu : -9223372036854775808 ≤ much ∧ much ≤ 9223372036854775807) (hdr : draw ≤ 9223372036854775807) : Calls Try.prog 6 #[.slice A len c, .int .i64 much, .int .i64 draw] w (fun e w' => e = .returned (.bool true) ∧ Only [] w w') := by
  have HG := hid hG; clear hG
  by_cases hbad : 16 < len ∨ much < 1 ∨ 255 < much
  · by_cases b1 : 16 < len
    · go_enter Try.func6, Try.ntmps6
      go_wp2_with fail
      refine (known1 w).mono ?_
      rintro x w1 ⟨rfl, o1⟩
      have O1 := hid o1; clear o1
      go_wp2_with fail
      go_ret
      exact ⟨rfl, O1.out⟩
    · by_cases b2 : much < 1
      · clear hbad
        go_enter Try.func6, Try.ntmps6
        go_wp2_with fail
        refine (known1 w).mono ?_
        rintro x w1 ⟨rfl, o1⟩
        have O1 := hid o1; clear o1
        go_wp2_with fail
        go_ret
        exact ⟨rfl, O1.out⟩
      · have b3 : 255 < much := by omega
        clear hbad
        go_enter Try.func6, Try.ntmps6
        go_wp2_with fail
        refine (known1 w).mono ?_
        rintro x w1 ⟨rfl, o1⟩
        have O1 := hid o1; clear o1
        go_wp2_with fail
        go_ret
        exact ⟨rfl, O1.out⟩
  · have b1 : len ≤ 16 := by omega
    have b1' : ¬ 16 < len := by omega
    have b2 : ¬ much < 1 := by omega
    have b3 : ¬ 255 < much := by omega
    clear hbad
    obtain ⟨W0, hW0⟩ : ∃ W0, w.alloc (.cells #[.slice none 0 0] 46) = W0 := ⟨_, rfl⟩
    have H0 : Hid (HI W0 w.heap.size w.heap.size [w.heap.size] []) := hid (by rw [← hW0]; exact HI.new w _ (Nat.le_refl _))
    have Q0 : Hid (Only [] w W0) := hid (by rw [← hW0]; exact (Only.refl [] w).alloc _)
    go_enter Try.func6, Try.ntmps6
    go_wp2_with fail
    clear hW0
    go_loopw [8, 9, 10, 11] (fun n i _ _ wr => ∃ (k : Nat) (S : List Gm), k ≤ len ∧ i = .int .i64 k ∧ n = .int .i64 (S.length : Int) ∧ S.length ≤ k ∧ Hid (Soon S) ∧ Hid (∃ F, HI wr w.heap.size w.heap.size F S) ∧ Hid (Only [] w wr)) (fun _ i _ _ _ => len - (RowKit.intOf i).toNat)
    case atStart => exact ⟨0, [], by omega, rfl, rfl, by simp, hid (fun s hs => by cases hs), hid ⟨_, H0.out⟩, Q0⟩
    case round =>
      clear H0 Q0
      obtain ⟨k, S, hk, rfl, rfl, hSk, HSo, HF, Q⟩ := hrel
      obtain ⟨F, hi⟩ := HF.out
      have H := hid hi; clear hi HF
      by_cases hlt : k < len
      · obtain ⟨b, off, rfl, hb, hc⟩ := (HG.out.only_nil Q.out).at_ (by omega)
        have c0 := hc k hlt
        clear hc hb
        generalize G.getD k 0 = t at *
        go_wp2_with fail
        clear c0
        refine (joinH wr w.heap.size w.heap.size F S t 0 draw H.out Q.out.size (by omega) hdr).mono ?_
        rintro x w1 ⟨A1, n1, c1, cs, F1, rfl, -, -, -, hs⟩
        have HS1 := hid (soon_join HSo.out t draw); have HL1 := hid (len_join S t 0 draw)
        have H1 : Hid (∃ F, HI w1 w.heap.size w.heap.size F (joinS S t 0 draw)) := hid ⟨F1, hs.hi⟩
        have Q1 := hid (hs.quiet H.out Q.out (Nat.le_refl _))
        clear hs
        generalize joinS S t 0 draw = S' at *
        by_cases he : joinE S t = 0
        · have hl : S'.length = S.length + 1 := by rw [HL1.out, if_pos he]
          have hl2 : ((S'.length : Nat) : Int) = (S.length : Int) + 1 := by omega
          have z : (joinE S t == 0) = true := by simpa using he
          have HL2 := hid hl2; have HL3 := hid hl
          clear hl hl2 he
          generalize joinE S t = e at *
          go_wp2_with fail
          go_roundw
          case rel => exact ⟨k + 1, S', by omega, by first | rfl | go_num, by first | (rw [HL2.out]; done) | (rw [HL2.out]; first | rfl | go_num), by rw [HL3.out]; omega, HS1, H1, Q1⟩
          case measure => simp [RowKit.intOf]; omega
        · have hl : S'.length = S.length := by rw [HL1.out, if_neg he]; rfl
          have z : (joinE S t == 0) = false := by simpa using he
          have HL3 := hid hl
          clear hl he
          generalize joinE S t = e at *
          go_wp2_with fail
          go_roundw
          case rel => exact ⟨k + 1, S', by omega, by first | rfl | go_num, by rw [HL3.out], by rw [HL3.out]; omega, HS1, H1, Q1⟩
          case measure => simp [RowKit.intOf]; omega
      · have hS16 : S.length ≤ 16 := by omega
        go_wp2_with fail
        clear hlt
        refine (tickH wr w.heap.size w.heap.size F S 1000 H.out).mono ?_
        rintro x w1 ⟨A1, c1, F1, rfl, -, -, hs⟩
        have H1 := hid hs.hi; have Q1 := hid (hs.quiet H.out Q.out (Nat.le_refl _))
        clear hs
        go_wp2_with fail
        refine (hearQ w1 w.heap.size w.heap.size F1 _ much 0 much 1000 draw H1.out Q1.out.size (by omega) (by rw [if_neg (by omega)]) (by omega) hdr).mono ?_
        rintro x w2 ⟨rfl, F2, hs⟩
        rw [stt_start HSo.out (by omega)] at hs
        have H2 : Hid (∃ F, HI w2 w.heap.size w.heap.size F (stt S much draw 1001)) := hid ⟨F2, hs.hi⟩
        have Q2 := hid (hs.quiet H1.out Q1.out (Nat.le_refl _))
        clear hs
        obtain ⟨mu, rfl⟩ := Int.eq_ofNat_of_zero_le (by omega : 0 ≤ much)
        go_wp2_with fail
        go_loopw [12, 13] (fun n i wq => ∃ (j : Nat), j ≤ mu ∧ i = .int .i64 (1001 + (j : Int)) ∧ n = .int .i64 ((tld S mu draw (1001 + (j : Int)) : Nat) : Int) ∧ Hid (∃ F, HI wq w.heap.size w.heap.size F (stt S mu draw (1001 + (j : Int)))) ∧ Hid (Only [] w wq)) (fun _ i _ => 1001 + mu - (RowKit.intOf i).toNat)
        case atStart => exact ⟨0, by omega, rfl, by rw [show (1001 + ((0 : Nat) : Int)) = 1001 from rfl, tld_start (by omega)]; rfl, H2, Q2⟩
        case round =>
          clear H2 Q2 H1 Q1 H Q
          obtain ⟨j, hj, rfl, rfl, HF, Q⟩ := hrel
          obtain ⟨F3, hi⟩ := HF.out
          have H := hid hi; clear hi HF
          by_cases hjm : j < mu
          · have hle : (1001 + (j : Int)) ≤ 1000 + (mu : Int) := by omega
            go_wp2_with fail
            refine (tickH wr w.heap.size w.heap.size F3 _ (1001 + (j : Int)) H.out).mono ?_
            rintro x w3 ⟨A3, c3, F4, rfl, -, -, hs⟩
            rw [stt_tick, show (1001 + (j : Int)) + 1 = 1001 + ((j + 1 : Nat) : Int) from by omega] at hs
            have HTL := hid (tld_step S mu draw (1001 + (j : Int)))
            have h1 := tld_le S mu draw (1001 + (j : Int))
            have h2 := rpt_len (1001 + (j : Int)) (stt S mu draw (1001 + (j : Int)))
            rw [show (stt S mu draw (1001 + (j : Int))).length = S.length from by simp [stt]] at h2
            have H3 : Hid (∃ F, HI w3 w.heap.size w.heap.size F (stt S mu draw (1001 + ((j + 1 : Nat) : Int)))) := hid ⟨F4, hs.hi⟩
            have Q3 := hid (hs.quiet H.out Q.out (Nat.le_refl _))
            clear hs
            obtain ⟨a, ha⟩ : ∃ a, tld S mu draw (1001 + (j : Int)) = a := ⟨_, rfl⟩
            obtain ⟨r, hr⟩ : ∃ r, (rptS (1001 + (j : Int)) (stt S mu draw (1001 + (j : Int)))).length = r := ⟨_, rfl⟩
            rw [ha] at HTL h1 ⊢; rw [hr] at HTL h2 ⊢
            clear ha hr
            have ha16 : a ≤ 16 := by omega
            have hr16 : r ≤ 16 := by omega
            go_wp2_with fail
            go_roundw
            case rel => exact ⟨j + 1, by omega, by first | rfl | go_num, by rw [show (1001 + ((j + 1 : Nat) : Int)) = (1001 + (j : Int)) + 1 from by omega]; first | (rw [HTL.out]; done) | (rw [HTL.out]; first | rfl | go_num), H3, Q3⟩
            case measure => simp [RowKit.intOf]; omega
          · obtain rfl : j = mu := by omega
            obtain ⟨he1, he2⟩ := tld_end (S := S) (much := (j : Int)) (draw := draw) (t := 1001 + (j : Int)) (by omega) (by omega)
            rw [he1]
            have hgt : ¬ (1001 + (j : Int)) ≤ 1000 + (j : Int) := by omega
            have HE2 := hid he2
            clear he1 he2
            go_wp2_with fail
            refine (tickH wr w.heap.size w.heap.size F3 _ 100000 H.out).mono ?_
            rintro x w3 ⟨A3, c3, F4, rfl, -, -, hs⟩
            rw [HE2.out]
            have Q3 := hid (hs.quiet H.out Q.out (Nat.le_refl _))
            clear hs
            go_wp2_with fail
            refine (known1 w3).mono ?_
            rintro x w4 ⟨rfl, o4⟩
            have Q4 := hid (Q3.out.trans o4); clear o4
            go_wp2_with fail
            go_ret
            exact ⟨rfl, Q4.out⟩
end Go.Proofs.Ytodcjokafjdhdaa.igm
