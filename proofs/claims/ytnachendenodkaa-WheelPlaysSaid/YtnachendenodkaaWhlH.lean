/-
  Chapter 3 (wheel): the document's wheel: Set and Due, by a walk of each text. Conditions: none but those typed.
-/
import Derived.Test.YtnachendenodkaaWhlF
namespace Go.Proofs.Ytnachendenodkaa.whl
set_option linter.unusedVariables false
set_option linter.unusedSimpArgs false
open Go.ChangeShapes Go.WideShapes Go.ChangeAt Go.RowKit Go.IntWalk Go.Lib
/-- A timer among sorted ones, behind the k that are ahead of it. -/
def put (D : List Tm) (k : Nat) (t : Tm) : List Tm := D.take k ++ [t] ++ D.drop k
theorem put_perm (D : List Tm) (k : Nat) (t : Tm) : (put D k t).Perm (D ++ [t]) := by
  unfold put
  have h : (D.take k ++ ([t] ++ D.drop k)).Perm (D.take k ++ (D.drop k ++ [t])) := List.Perm.append_left _ List.perm_append_comm
  rw [List.append_assoc]
  refine h.trans ?_
  rw [← List.append_assoc, List.take_append_drop]
theorem put_len (D : List Tm) (k : Nat) (t : Tm) : (put D k t).length = D.length + 1 := by rw [(put_perm D k t).length_eq]; simp
theorem put_srt {D : List Tm} {k : Nat} {t : Tm} (hk : k ≤ D.length) (hs : Srt D) (h1 : ∀ j, j < k → tlt (gt D j) t = true) (h2 : k < D.length → tlt (gt D k) t = false) (h3 : ∀ u ∈ D, u.k ≠ t.k) : Srt (put D k t) := by
  unfold put Srt
  rw [List.append_assoc]
  have hs1 := hs.sublist (List.take_sublist k D)
  have hs2 := hs.sublist (List.drop_sublist k D)
  rw [List.pairwise_append]
  have hA : ∀ x ∈ D.take k, tlt x t = true := fun x hx => by
    obtain ⟨i, hi, rfl⟩ := List.mem_iff_getElem.1 hx
    have hik : i < k := by rw [List.length_take] at hi; omega
    have := h1 i hik
    rwa [gt_at D i (by omega), ← List.getElem_take (h := hi)] at this
  have hB : ∀ y ∈ D.drop k, tlt t y = true := fun y hy => by
    have hkl : k < D.length := by
      rcases Nat.lt_or_ge k D.length with h | h
      · exact h
      · rw [List.drop_of_length_le h] at hy; cases hy
    have hd : D.drop k = gt D k :: D.drop (k + 1) := by rw [gt_at D k hkl]; exact List.drop_eq_getElem_cons hkl
    have e2 := h2 hkl
    have ek := h3 (gt D k) (gt_mem D k hkl)
    have e3 : tlt t (gt D k) = true := by
      rw [tlt_iff]
      have h4 : ¬ ((gt D k).a < t.a ∨ (gt D k).a = t.a ∧ (gt D k).k < t.k) := by rw [← tlt_iff]; simp [e2]
      omega
    rw [hd] at hy hs2
    rcases List.mem_cons.1 hy with rfl | hy
    · exact e3
    · have e4 := (List.pairwise_cons.1 hs2).1 y hy
      rw [tlt_iff] at *; omega
  refine ⟨hs1, ?_, fun x hx y hy => ?_⟩
  · rw [List.singleton_append]
    exact List.pairwise_cons.2 ⟨hB, hs2⟩
  · rw [List.singleton_append] at hy
    rcases List.mem_cons.1 hy with rfl | hy
    · exact hA x hx
    · have e1 := hA x hx; have e2 := hB y hy
      rw [tlt_iff] at *; omega
set_option maxRecDepth 100000 in
set_option maxHeartbeats 8000000 in
theorem setD (w : World) (g : Nat) (A : Option Addr) (c : Nat) (D : List Tm) (key a : Int) (h : DV w g A c D) (hk : (keys D).Nodup) (hs : Srt D) : Calls Try.prog 18 #[.pointer (some ⟨g, 0, none⟩), .int .i64 key, .int .i64 a] w fun x w' => x = .returned (.int .i64 (setE D key a)) ∧ ∃ D', DNext w g A D' w' ∧ Srt D' ∧ D'.Perm (setS D key a) := by
  have H := hid h
  by_cases h1 : a < 0 ∨ 1099511627776 < a
  · have HE : Hid (setE D key a = 1) := hid (by unfold setE; rw [if_pos h1])
    have HSS : Hid (setS D key a = D) := hid (by unfold setS; rw [HE.out]; rfl)
    have HSr := hid hs
    clear h hk hs
    by_cases h2 : a < 0
    · clear h1
      go_enter Try.func18, Try.ntmps18
      go_wp2
      go_ret
      exact ⟨rInt HE.out.symm, D, DNext.same H.out (Only.refl _ _), HSr.out, by rw [HSS.out]⟩
    · have h3 : 1099511627776 < a := by omega
      clear h1
      go_enter Try.func18, Try.ntmps18
      go_wp2
      go_ret
      exact ⟨rInt HE.out.symm, D, DNext.same H.out (Only.refl _ _), HSr.out, by rw [HSS.out]⟩
  · have ha0 : 0 ≤ a := by omega
    have ha1 : a ≤ 1099511627776 := by omega
    have HF := hid (spotD w g A c D key h)
    have HNd := hid hk; have HSr := hid hs
    have hmo := h.most
    by_cases h6 : has D key = false ∧ 256 ≤ D.length
    · have HE : Hid (setE D key a = 6) := hid (by unfold setE; rw [if_neg h1, if_pos h6])
      have HSS : Hid (setS D key a = D) := hid (by unfold setS; rw [HE.out]; rfl)
      have HNo := hid h6.1
      have hln : (256 : Int) ≤ D.length := by have := h6.2; omega
      clear h h1 h6 hk hs
      go_enter Try.func18, Try.ntmps18
      go_wp2_with fail
      refine HF.out.mono ?_
      rintro x w1 ⟨r, rfl, hr, o1⟩
      have c0 := (H.out.only_nil o1).ob.cell 0
      have Q := hid o1; clear o1
      rcases hr with ⟨rfl, hno⟩ | ⟨k, hp, rfl, hk⟩
      · clear hno
        go_wp2
        go_ret
        exact ⟨rInt HE.out.symm, D, DNext.same H.out Q.out, HSr.out, by rw [HSS.out]⟩
      · exact absurd (has_yes (gt_mem D k hp) hk) (by rw [HNo.out]; simp)
    · have HE : Hid (setE D key a = 0) := hid (by unfold setE; rw [if_neg h1, if_neg h6])
      have HSS : Hid (setS D key a = rm D key ++ [⟨key, a⟩]) := hid (by unfold setS; rw [if_pos HE.out])
      have HLt : Hid ((rm D key).length + 1 ≤ 256) := hid (by
        cases hh : has D key with
        | false =>
          rw [has_rm hh]
          by_cases h9 : 256 ≤ D.length
          · exact absurd ⟨hh, h9⟩ h6
          · omega
        | true =>
          unfold has at hh
          rw [List.any_eq_true] at hh
          obtain ⟨t, ht, hk2⟩ := hh
          have := rm_len hk ht (by simpa using hk2)
          omega)
      have H66 := hid h6
      clear h h1 h6 hk hs
      have HCa := hid (fun W (o : Only [] w W) => cancelD W g A c D key (H.out.only_nil o) HNd.out)
      go_enter Try.func18, Try.ntmps18
      go_wp2_with fail
      refine HF.out.mono ?_
      rintro x w1 ⟨r, rfl, hr, o1⟩
      have c0 := (H.out.only_nil o1).ob.cell 0
      have Q := hid o1; clear o1
      have hr2 : (r = -1 ∧ D.length < 256) ∨ 0 ≤ r := by
        rcases hr with ⟨rfl, hno⟩ | ⟨k, hp, rfl, hk⟩
        · left
          refine ⟨rfl, ?_⟩
          rcases Nat.lt_or_ge D.length 256 with h | h
          · exact h
          · exact absurd ⟨hasNo hno, h⟩ H66.out
        · right; omega
      clear hr
      rcases hr2 with ⟨rfl, hl⟩ | hr0
      all_goals
        go_wp2_with fail
        refine (HCa.out _ Q.out).mono ?_
        rintro x w2 ⟨rfl, A1, c1, hD1, hb1, q1⟩
        have H1 := hid hD1; have HB1 := hid hb1
        have Q1 : Hid (Only [g] w w2) := hid ((Q.out.more (by simp)).trans q1)
        clear hD1 hb1 q1 c0
        have hlt1 : (rm D key).length < 256 := by have := HLt.out; omega
        have HNd1 := hid (rm_nodup HNd.out key)
        have HSr1 : Hid (Srt (rm D key)) := hid (HSr.out.sublist List.filter_sublist)
        have HNo1 : Hid (∀ u ∈ rm D key, u.k ≠ key) := hid (fun u hu => (rm_not hu).2)
        obtain ⟨D1, hD1⟩ : ∃ D1, rm D key = D1 := ⟨_, rfl⟩
        rw [hD1] at H1 hlt1 HNd1 HSr1 HNo1 HSS
        clear hD1
        obtain ⟨n, hL⟩ : ∃ n, D1.length = n := ⟨_, rfl⟩
        have HL := hid hL
        have HO : Hid (Ob w2 g 31 #[.slice A1 n c1]) := hid (by have := H1.out.ob; rwa [hL] at this)
        rw [hL] at hlt1
        clear hL
        go_wp2_with fail
        go_loopw [7] (fun i wr => ∃ k : Nat, k ≤ n ∧ i = .int .i64 k ∧ Hid (∀ j, j < k → tlt (gt D1 j) ⟨key, a⟩ = true) ∧ Hid (Only [] w2 wr)) (fun i _ => n - (intOf i).toNat)
        case atStart => exact ⟨0, by omega, rfl, hid (fun i hi => absurd hi (by omega)), hid (Only.refl _ _)⟩
        case round =>
          obtain ⟨k, hk, rfl, HN, HB⟩ := hrel
          have c0 := (HO.out.only HB.out (by simp)).cell 0
          have STOP : Hid ((k = n ∨ (k < n ∧ tlt (gt D1 k) ⟨key, a⟩ = false)) → ∃ D', D' = put D1 k ⟨key, a⟩ ∧ Srt D' ∧ D'.Perm (setS D key a)) := hid (fun hst => ⟨_, rfl, put_srt (by rw [HL.out]; exact hk) HSr1.out HN.out (fun hkl => by
            rw [HL.out] at hkl
            rcases hst with e | ⟨_, e⟩
            · omega
            · exact e) HNo1.out, by rw [HSS.out]; exact put_perm _ _ _⟩)
          by_cases hstop : k = n ∨ (k < n ∧ tlt (gt D1 k) ⟨key, a⟩ = false)
          · obtain ⟨D', hD', hs', hp'⟩ := STOP.out hstop
            have HD' := hid hD'; have HS' := hid hs'; have HP' := hid hp'
            clear hD' hs' hp' STOP
            have hcm := H1.out.cm
            have hnc := H1.out.cap
            rw [HL.out] at hnc
            have rd := H1.out.rd.only_nil HB.out
            rw [HL.out] at rd
            obtain ⟨A2, c2, sl1, r1, n1, f1, z1⟩ := slLow wr A1 n c1 k (tcs D1) hk hnc hcm H1.out.nil rd H1.out.fm
            obtain ⟨A3, c3, sl2, r2, n2, f2, z2, z3, z4⟩ := slHigh wr A1 n c1 k (tcs D1) hk hnc hcm H1.out.nil rd H1.out.fm
            have HR1 := hid r1; have HR2 := hid r2; have HN1 := hid n1; have HN2 := hid n2; have HF1 := hid f1; have HF2 := hid f2
            clear r1 r2 n1 n2 f1 f2 hcm hnc rd z1 z3 z4
            have hglt : g < wr.heap.size := (HO.out.only HB.out (by simp)).lt
            have V0 := hid (own_empty wr TR 2 w2.heap.size HB.out.size)
            have HB5 : Hid (Only [] w2 (wr.alloc (.cells #[] TR))) := hid (HB.out.alloc _)
            have HQ5 : Hid (Only [] wr (wr.alloc (.cells #[] TR))) := hid ((Only.refl _ _).alloc _)
            have hcs : k = n ∨ (k < n ∧ ∃ uk ua b off, A1 = some ⟨b, off, none⟩ ∧ wr.cell? ⟨b, off + k * 2, none⟩ = some (.int .i64 uk) ∧ wr.cell? ⟨b, off + k * 2 + 1, none⟩ = some (.int .i64 ua) ∧ a ≤ ua ∧ ua ≠ a) ∨ (k < n ∧ ∃ uk b off, A1 = some ⟨b, off, none⟩ ∧ wr.cell? ⟨b, off + k * 2, none⟩ = some (.int .i64 uk) ∧ wr.cell? ⟨b, off + k * 2 + 1, none⟩ = some (.int .i64 a) ∧ key ≤ uk) := by
              rcases hstop with h | ⟨hlt, h⟩
              · exact .inl h
              · right
                obtain ⟨b, off, e, hb, hc⟩ := ((TRd.of H1.out.rd).only_nil HB.out).at_ (by rw [HL.out]; omega)
                obtain ⟨q0, q1⟩ := hc k (by rw [HL.out]; exact hlt)
                have h4 : ¬ ((gt D1 k).a < a ∨ (gt D1 k).a = a ∧ (gt D1 k).k < key) := by
                  have := tlt_iff (gt D1 k) ⟨key, a⟩
                  rw [h] at this
                  simpa using this
                by_cases h5 : (gt D1 k).a = a
                · rw [h5] at q1
                  exact .inr ⟨hlt, _, b, off, e, q0, q1, by omega⟩
                · exact .inl ⟨hlt, _, _, b, off, e, q0, q1, by omega, h5⟩
            clear hstop
            have HTcs : Hid (tcs (put D1 k ⟨key, a⟩) = (tcs D1).take (k * 2) ++ Tm.cs ⟨key, a⟩ ++ (tcs D1).drop (k * 2)) := hid (by unfold put; rw [tcs_app, tcs_app, tcs_take, tcs_drop]; rfl)
            have HLow : Hid (∀ b off, A3 = some ⟨b, off, none⟩ → b < w2.heap.size ∨ n - k = 0) := hid (fun b off e => by
              rcases Nat.eq_zero_or_pos (n - k) with h0 | h0
              · exact .inr h0
              · left
                obtain ⟨o, e1⟩ := z2 b off e
                obtain ⟨b', off', e2, hb2, _⟩ := H1.out.rd.cells (by rw [HL.out]; omega)
                rw [e1] at e2
                injection e2 with e2; injection e2 with e2 _
                rw [e2]; exact hb2)
            rcases hcs with rfl | ⟨hlt, uk, ua, b, off, rfl, q0, q1, h7, h8⟩ | ⟨hlt, uk, b, off, rfl, q0, q1, h7⟩
            · clear z2
              rw [Nat.sub_self] at HR2 HLow
              simp only [Nat.sub_self] at sl2
              go_wp2_with (at_builtin; refine wpList_appS _ rfl (.tmp 75) (.tmp 81) _ rfl trElem w2.heap.size _ 0 [] rfl V0.out A2 _ c2 _ rfl (HR1.out.only_nil HQ5.out) HN1.out HF1.out (by omega) (by unfold maxLen; omega) HB5.out.size ?_)
              intro v4 w4 hv4 hg4 hb4
              have HB6 : Hid (Only [] w2 w4) := hid (HB5.out.of_grown hg4 (fun k hk => .inr (V0.out.lt k hk).1))
              have HQ6 : Hid (Only [] wr w4) := hid (HQ5.out.of_grown hg4 (fun k hk => by simp [Value.ownBlock] at hk; subst hk; right; exact Nat.le_refl _))
              have V1 : Hid (w4.ownsRow w2.heap.size TR 2 v4 k ((tcs D1).take (k * 2))) := hid (by simpa using hv4)
              clear hv4 hg4 hb4
              have HR3 : Hid (RdS (w4.alloc (.cells #[.int .i64 key, .int .i64 a] TR)) (some ⟨w4.heap.size, 0, none⟩) 1 2 (Tm.cs ⟨key, a⟩)) := hid ⟨rfl, by intro u hu; simp [Tm.cs] at hu; rcases hu with rfl | rfl <;> rfl, fun _ => ⟨w4.heap.size, 0, rfl, by simp, fun j u hj => by rw [Nat.zero_add, (Ob.new w4 TR #[.int .i64 key, .int .i64 a]).cell j]; simpa [Tm.cs] using hj⟩⟩
              have HB7 : Hid (Only [] w2 (w4.alloc (.cells #[.int .i64 key, .int .i64 a] TR))) := hid (HB6.out.alloc _)
              have HQ7 : Hid (Only [] wr (w4.alloc (.cells #[.int .i64 key, .int .i64 a] TR))) := hid (HQ6.out.alloc _)
              have HQ47 : Hid (Only [] w4 (w4.alloc (.cells #[.int .i64 key, .int .i64 a] TR))) := hid ((Only.refl _ _).alloc _)
              go_wp2_with (at_builtin; refine wpList_appS _ rfl (.tmp 83) (.tmp 87) _ rfl trElem w2.heap.size _ k _ rfl (own_only_nil V1.out HQ47.out) (some ⟨w4.heap.size, 0, none⟩) 1 1 (Tm.cs ⟨key, a⟩) rfl HR3.out (by intro e; cases e) (.inr ⟨_, _, rfl⟩) (by omega) (by unfold maxLen; omega) HB7.out.size ?_)
              intro v5 w5 hv5 hg5 hb5
              have HB8 : Hid (Only [] w2 w5) := hid (HB7.out.of_grown hg5 (fun k hk => .inr (V1.out.lt k hk).1))
              have V2 : Hid (w5.ownsRow w2.heap.size TR 2 v5 (k + 1) ((tcs D1).take (k * 2) ++ Tm.cs ⟨key, a⟩)) := hid (by simpa using hv5)
              have c5 : w5.cell? ⟨g, 0, none⟩ = some (.slice A1 k c1) := (HO.out.only HB8.out (by simp)).cell 0
              have HQ8 : Hid (RdS w5 A3 (0) 2 ((tcs D1).drop (k * 2))) := hid (by
                rcases Nat.eq_zero_or_pos (0) with h0 | h0
                · exact ⟨HR2.out.len, HR2.out.one, fun h => absurd h (by omega)⟩
                · refine HR2.out.only (S := v4.ownBlock.toList) ((HQ7.out.more (by simp)).of_grown hg5 (fun k hk => .inl (by rw [hk]; simp))) (fun b off e hlt hm => ?_)
                  have h8 := V1.out.lt b (by simpa using hm)
                  have h9 := HLow.out b off e
                  omega)
              have hglt5 : g < w5.heap.size := (HO.out.only HB8.out (by simp)).lt
              clear hv5 hg5 hb5
              go_wp2_with (at_builtin; refine wpList_appS _ rfl (.tmp 90) (.tmp 96) _ rfl trElem w2.heap.size _ (k + 1) _ rfl V2.out A3 (0) c3 _ rfl HQ8.out HN2.out HF2.out (by omega) (by unfold maxLen; omega) HB8.out.size ?_)
              intro v6 w6 hv6 hg6 hb6
              have HB9 : Hid (Only [] w2 w6) := hid (HB8.out.of_grown hg6 (fun k hk => .inr (V2.out.lt k hk).1))
              have h1s : ∀ u ∈ (tcs D1).take (k * 2) ++ Tm.cs ⟨key, a⟩ ++ (tcs D1).drop (k * 2), u.oneCell' = true := by
                intro u hu
                rw [← HTcs.out] at hu
                exact tcs_one _ u hu
              have hv6 : w6.ownsRow w2.heap.size TR 2 v6 (k + 1 + (0)) ((tcs D1).take (k * 2) ++ Tm.cs ⟨key, a⟩ ++ (tcs D1).drop (k * 2)) := by simpa using hv6
              obtain ⟨A4, c4, rfl, hc3, hm3, hn3, r3, hb3, hs3⟩ := RdS.of_own hv6 h1s
              have HLo : Hid (∀ b off, A4 = some ⟨b, off, none⟩ → w2.heap.size ≤ b ∧ b < w6.heap.size) := hid (fun b off e => hv6.lt b (hb3 b off e).2)
              have HC3 := hid hc3; have HM3 := hid hm3; have HN3 := hid hn3; have HR4 := hid r3; have HS3 := hid hs3
              clear hc3 hm3 hn3 r3 hb3 hs3 hv6 hg6 hb6 h1s c5
              have c6 := (HO.out.only HB9.out (by simp)).cell 0
              have f6 := (HO.out.only HB9.out (by simp)).frozen 0
              go_wp2
              go_ret
              refine ⟨rInt HE.out.symm, D', ?_, HS'.out, HP'.out⟩
              have e8 : D'.length = k + 1 + (0) := by have h9 := put_len D1 k ⟨key, a⟩; rw [HD'.out]; rw [HL.out] at h9; omega
              have oo : Only [g] w6 (w6.setCell ⟨g, 0, none⟩ (.slice A4 (k + 1 + (0)) c4)) := (Only.refl _ _).setCell (p := ⟨g, 0, none⟩) (.inl (by simp)) _
              have hgl2 : g < w2.heap.size := HO.out.lt
              have hneg : ∀ b off, A4 = some ⟨b, off, none⟩ → b ≠ g := fun b off e => by have := HLo.out b off e; omega
              refine ⟨A4, c4, ⟨?_, ?_, by rw [e8]; exact HC3.out, HM3.out, HN3.out, HS3.out.elim .inl (fun ⟨b, e⟩ => .inr ⟨b, 0, e⟩), hneg, fun b off e => by have := (HLo.out b off e).2; simpa using this, by rw [e8]; omega⟩, fun b off e => .inr (Nat.le_trans Q1.out.size (HLo.out b off e).1), ?_⟩
              · rw [e8]; exact (HO.out.only HB9.out (by simp)).set 0 _
              · rw [e8, HD'.out, HTcs.out]; exact HR4.out.only oo (fun b off e _ => by simpa using hneg b off e)
              · exact (Q1.out.trans (HB9.out.more (by simp))).setCell (p := ⟨g, 0, none⟩) (.inl (by simp)) _
            · have h9 : (ua == a) = false := by simpa using h8
              clear z2
              go_wp2_with (at_builtin; refine wpList_appS _ rfl (.tmp 75) (.tmp 81) _ rfl trElem w2.heap.size _ 0 [] rfl V0.out A2 _ c2 _ rfl (HR1.out.only_nil HQ5.out) HN1.out HF1.out (by omega) (by unfold maxLen; omega) HB5.out.size ?_)
              intro v4 w4 hv4 hg4 hb4
              have HB6 : Hid (Only [] w2 w4) := hid (HB5.out.of_grown hg4 (fun k hk => .inr (V0.out.lt k hk).1))
              have HQ6 : Hid (Only [] wr w4) := hid (HQ5.out.of_grown hg4 (fun k hk => by simp [Value.ownBlock] at hk; subst hk; right; exact Nat.le_refl _))
              have V1 : Hid (w4.ownsRow w2.heap.size TR 2 v4 k ((tcs D1).take (k * 2))) := hid (by simpa using hv4)
              clear hv4 hg4 hb4
              have HR3 : Hid (RdS (w4.alloc (.cells #[.int .i64 key, .int .i64 a] TR)) (some ⟨w4.heap.size, 0, none⟩) 1 2 (Tm.cs ⟨key, a⟩)) := hid ⟨rfl, by intro u hu; simp [Tm.cs] at hu; rcases hu with rfl | rfl <;> rfl, fun _ => ⟨w4.heap.size, 0, rfl, by simp, fun j u hj => by rw [Nat.zero_add, (Ob.new w4 TR #[.int .i64 key, .int .i64 a]).cell j]; simpa [Tm.cs] using hj⟩⟩
              have HB7 : Hid (Only [] w2 (w4.alloc (.cells #[.int .i64 key, .int .i64 a] TR))) := hid (HB6.out.alloc _)
              have HQ7 : Hid (Only [] wr (w4.alloc (.cells #[.int .i64 key, .int .i64 a] TR))) := hid (HQ6.out.alloc _)
              have HQ47 : Hid (Only [] w4 (w4.alloc (.cells #[.int .i64 key, .int .i64 a] TR))) := hid ((Only.refl _ _).alloc _)
              go_wp2_with (at_builtin; refine wpList_appS _ rfl (.tmp 83) (.tmp 87) _ rfl trElem w2.heap.size _ k _ rfl (own_only_nil V1.out HQ47.out) (some ⟨w4.heap.size, 0, none⟩) 1 1 (Tm.cs ⟨key, a⟩) rfl HR3.out (by intro e; cases e) (.inr ⟨_, _, rfl⟩) (by omega) (by unfold maxLen; omega) HB7.out.size ?_)
              intro v5 w5 hv5 hg5 hb5
              have HB8 : Hid (Only [] w2 w5) := hid (HB7.out.of_grown hg5 (fun k hk => .inr (V1.out.lt k hk).1))
              have V2 : Hid (w5.ownsRow w2.heap.size TR 2 v5 (k + 1) ((tcs D1).take (k * 2) ++ Tm.cs ⟨key, a⟩)) := hid (by simpa using hv5)
              have c5 : w5.cell? ⟨g, 0, none⟩ = some (.slice (some ⟨b, off, none⟩) n c1) := (HO.out.only HB8.out (by simp)).cell 0
              have HQ8 : Hid (RdS w5 A3 (n - k) 2 ((tcs D1).drop (k * 2))) := hid (by
                rcases Nat.eq_zero_or_pos (n - k) with h0 | h0
                · exact ⟨HR2.out.len, HR2.out.one, fun h => absurd h (by omega)⟩
                · refine HR2.out.only (S := v4.ownBlock.toList) ((HQ7.out.more (by simp)).of_grown hg5 (fun k hk => .inl (by rw [hk]; simp))) (fun b off e hlt hm => ?_)
                  have h8 := V1.out.lt b (by simpa using hm)
                  have h9 := HLow.out b off e
                  omega)
              have hglt5 : g < w5.heap.size := (HO.out.only HB8.out (by simp)).lt
              clear hv5 hg5 hb5
              go_wp2_with (at_builtin; refine wpList_appS _ rfl (.tmp 90) (.tmp 96) _ rfl trElem w2.heap.size _ (k + 1) _ rfl V2.out A3 (n - k) c3 _ rfl HQ8.out HN2.out HF2.out (by omega) (by unfold maxLen; omega) HB8.out.size ?_)
              intro v6 w6 hv6 hg6 hb6
              have HB9 : Hid (Only [] w2 w6) := hid (HB8.out.of_grown hg6 (fun k hk => .inr (V2.out.lt k hk).1))
              have h1s : ∀ u ∈ (tcs D1).take (k * 2) ++ Tm.cs ⟨key, a⟩ ++ (tcs D1).drop (k * 2), u.oneCell' = true := by
                intro u hu
                rw [← HTcs.out] at hu
                exact tcs_one _ u hu
              have hv6 : w6.ownsRow w2.heap.size TR 2 v6 (k + 1 + (n - k)) ((tcs D1).take (k * 2) ++ Tm.cs ⟨key, a⟩ ++ (tcs D1).drop (k * 2)) := by simpa using hv6
              obtain ⟨A4, c4, rfl, hc3, hm3, hn3, r3, hb3, hs3⟩ := RdS.of_own hv6 h1s
              have HLo : Hid (∀ b off, A4 = some ⟨b, off, none⟩ → w2.heap.size ≤ b ∧ b < w6.heap.size) := hid (fun b off e => hv6.lt b (hb3 b off e).2)
              have HC3 := hid hc3; have HM3 := hid hm3; have HN3 := hid hn3; have HR4 := hid r3; have HS3 := hid hs3
              clear hc3 hm3 hn3 r3 hb3 hs3 hv6 hg6 hb6 h1s c5
              have c6 := (HO.out.only HB9.out (by simp)).cell 0
              have f6 := (HO.out.only HB9.out (by simp)).frozen 0
              go_wp2
              go_ret
              refine ⟨rInt HE.out.symm, D', ?_, HS'.out, HP'.out⟩
              have e8 : D'.length = k + 1 + (n - k) := by have h9 := put_len D1 k ⟨key, a⟩; rw [HD'.out]; rw [HL.out] at h9; omega
              have oo : Only [g] w6 (w6.setCell ⟨g, 0, none⟩ (.slice A4 (k + 1 + (n - k)) c4)) := (Only.refl _ _).setCell (p := ⟨g, 0, none⟩) (.inl (by simp)) _
              have hgl2 : g < w2.heap.size := HO.out.lt
              have hneg : ∀ b off, A4 = some ⟨b, off, none⟩ → b ≠ g := fun b off e => by have := HLo.out b off e; omega
              refine ⟨A4, c4, ⟨?_, ?_, by rw [e8]; exact HC3.out, HM3.out, HN3.out, HS3.out.elim .inl (fun ⟨b, e⟩ => .inr ⟨b, 0, e⟩), hneg, fun b off e => by have := (HLo.out b off e).2; simpa using this, by rw [e8]; omega⟩, fun b off e => .inr (Nat.le_trans Q1.out.size (HLo.out b off e).1), ?_⟩
              · rw [e8]; exact (HO.out.only HB9.out (by simp)).set 0 _
              · rw [e8, HD'.out, HTcs.out]; exact HR4.out.only oo (fun b off e _ => by simpa using hneg b off e)
              · exact (Q1.out.trans (HB9.out.more (by simp))).setCell (p := ⟨g, 0, none⟩) (.inl (by simp)) _
            · have h9 : (a == a) = true := by simp
              clear z2
              go_wp2_with (at_builtin; refine wpList_appS _ rfl (.tmp 75) (.tmp 81) _ rfl trElem w2.heap.size _ 0 [] rfl V0.out A2 _ c2 _ rfl (HR1.out.only_nil HQ5.out) HN1.out HF1.out (by omega) (by unfold maxLen; omega) HB5.out.size ?_)
              intro v4 w4 hv4 hg4 hb4
              have HB6 : Hid (Only [] w2 w4) := hid (HB5.out.of_grown hg4 (fun k hk => .inr (V0.out.lt k hk).1))
              have HQ6 : Hid (Only [] wr w4) := hid (HQ5.out.of_grown hg4 (fun k hk => by simp [Value.ownBlock] at hk; subst hk; right; exact Nat.le_refl _))
              have V1 : Hid (w4.ownsRow w2.heap.size TR 2 v4 k ((tcs D1).take (k * 2))) := hid (by simpa using hv4)
              clear hv4 hg4 hb4
              have HR3 : Hid (RdS (w4.alloc (.cells #[.int .i64 key, .int .i64 a] TR)) (some ⟨w4.heap.size, 0, none⟩) 1 2 (Tm.cs ⟨key, a⟩)) := hid ⟨rfl, by intro u hu; simp [Tm.cs] at hu; rcases hu with rfl | rfl <;> rfl, fun _ => ⟨w4.heap.size, 0, rfl, by simp, fun j u hj => by rw [Nat.zero_add, (Ob.new w4 TR #[.int .i64 key, .int .i64 a]).cell j]; simpa [Tm.cs] using hj⟩⟩
              have HB7 : Hid (Only [] w2 (w4.alloc (.cells #[.int .i64 key, .int .i64 a] TR))) := hid (HB6.out.alloc _)
              have HQ7 : Hid (Only [] wr (w4.alloc (.cells #[.int .i64 key, .int .i64 a] TR))) := hid (HQ6.out.alloc _)
              have HQ47 : Hid (Only [] w4 (w4.alloc (.cells #[.int .i64 key, .int .i64 a] TR))) := hid ((Only.refl _ _).alloc _)
              go_wp2_with (at_builtin; refine wpList_appS _ rfl (.tmp 83) (.tmp 87) _ rfl trElem w2.heap.size _ k _ rfl (own_only_nil V1.out HQ47.out) (some ⟨w4.heap.size, 0, none⟩) 1 1 (Tm.cs ⟨key, a⟩) rfl HR3.out (by intro e; cases e) (.inr ⟨_, _, rfl⟩) (by omega) (by unfold maxLen; omega) HB7.out.size ?_)
              intro v5 w5 hv5 hg5 hb5
              have HB8 : Hid (Only [] w2 w5) := hid (HB7.out.of_grown hg5 (fun k hk => .inr (V1.out.lt k hk).1))
              have V2 : Hid (w5.ownsRow w2.heap.size TR 2 v5 (k + 1) ((tcs D1).take (k * 2) ++ Tm.cs ⟨key, a⟩)) := hid (by simpa using hv5)
              have c5 : w5.cell? ⟨g, 0, none⟩ = some (.slice (some ⟨b, off, none⟩) n c1) := (HO.out.only HB8.out (by simp)).cell 0
              have HQ8 : Hid (RdS w5 A3 (n - k) 2 ((tcs D1).drop (k * 2))) := hid (by
                rcases Nat.eq_zero_or_pos (n - k) with h0 | h0
                · exact ⟨HR2.out.len, HR2.out.one, fun h => absurd h (by omega)⟩
                · refine HR2.out.only (S := v4.ownBlock.toList) ((HQ7.out.more (by simp)).of_grown hg5 (fun k hk => .inl (by rw [hk]; simp))) (fun b off e hlt hm => ?_)
                  have h8 := V1.out.lt b (by simpa using hm)
                  have h9 := HLow.out b off e
                  omega)
              have hglt5 : g < w5.heap.size := (HO.out.only HB8.out (by simp)).lt
              clear hv5 hg5 hb5
              go_wp2_with (at_builtin; refine wpList_appS _ rfl (.tmp 90) (.tmp 96) _ rfl trElem w2.heap.size _ (k + 1) _ rfl V2.out A3 (n - k) c3 _ rfl HQ8.out HN2.out HF2.out (by omega) (by unfold maxLen; omega) HB8.out.size ?_)
              intro v6 w6 hv6 hg6 hb6
              have HB9 : Hid (Only [] w2 w6) := hid (HB8.out.of_grown hg6 (fun k hk => .inr (V2.out.lt k hk).1))
              have h1s : ∀ u ∈ (tcs D1).take (k * 2) ++ Tm.cs ⟨key, a⟩ ++ (tcs D1).drop (k * 2), u.oneCell' = true := by
                intro u hu
                rw [← HTcs.out] at hu
                exact tcs_one _ u hu
              have hv6 : w6.ownsRow w2.heap.size TR 2 v6 (k + 1 + (n - k)) ((tcs D1).take (k * 2) ++ Tm.cs ⟨key, a⟩ ++ (tcs D1).drop (k * 2)) := by simpa using hv6
              obtain ⟨A4, c4, rfl, hc3, hm3, hn3, r3, hb3, hs3⟩ := RdS.of_own hv6 h1s
              have HLo : Hid (∀ b off, A4 = some ⟨b, off, none⟩ → w2.heap.size ≤ b ∧ b < w6.heap.size) := hid (fun b off e => hv6.lt b (hb3 b off e).2)
              have HC3 := hid hc3; have HM3 := hid hm3; have HN3 := hid hn3; have HR4 := hid r3; have HS3 := hid hs3
              clear hc3 hm3 hn3 r3 hb3 hs3 hv6 hg6 hb6 h1s c5
              have c6 := (HO.out.only HB9.out (by simp)).cell 0
              have f6 := (HO.out.only HB9.out (by simp)).frozen 0
              go_wp2
              go_ret
              refine ⟨rInt HE.out.symm, D', ?_, HS'.out, HP'.out⟩
              have e8 : D'.length = k + 1 + (n - k) := by have h9 := put_len D1 k ⟨key, a⟩; rw [HD'.out]; rw [HL.out] at h9; omega
              have oo : Only [g] w6 (w6.setCell ⟨g, 0, none⟩ (.slice A4 (k + 1 + (n - k)) c4)) := (Only.refl _ _).setCell (p := ⟨g, 0, none⟩) (.inl (by simp)) _
              have hgl2 : g < w2.heap.size := HO.out.lt
              have hneg : ∀ b off, A4 = some ⟨b, off, none⟩ → b ≠ g := fun b off e => by have := HLo.out b off e; omega
              refine ⟨A4, c4, ⟨?_, ?_, by rw [e8]; exact HC3.out, HM3.out, HN3.out, HS3.out.elim .inl (fun ⟨b, e⟩ => .inr ⟨b, 0, e⟩), hneg, fun b off e => by have := (HLo.out b off e).2; simpa using this, by rw [e8]; omega⟩, fun b off e => .inr (Nat.le_trans Q1.out.size (HLo.out b off e).1), ?_⟩
              · rw [e8]; exact (HO.out.only HB9.out (by simp)).set 0 _
              · rw [e8, HD'.out, HTcs.out]; exact HR4.out.only oo (fun b off e _ => by simpa using hneg b off e)
              · exact (Q1.out.trans (HB9.out.more (by simp))).setCell (p := ⟨g, 0, none⟩) (.inl (by simp)) _
          · have hlt : k < n := by
              rcases Nat.lt_or_ge k n with h | h
              · exact h
              · exact absurd (.inl (by omega)) hstop
            have htl : tlt (gt D1 k) ⟨key, a⟩ = true := by
              cases e : tlt (gt D1 k) ⟨key, a⟩ with
              | true => rfl
              | false => exact absurd (.inr ⟨hlt, e⟩) hstop
            have HTl := hid htl
            rw [tlt_iff] at htl
            obtain ⟨b, off, rfl, hb, hc⟩ := ((TRd.of H1.out.rd).only_nil HB.out).at_ (by rw [HL.out]; omega)
            obtain ⟨q0, q1⟩ := hc k (by rw [HL.out]; exact hlt)
            clear hc hstop STOP
            obtain ⟨⟨uk, ua⟩, hu⟩ : ∃ u, gt D1 k = u := ⟨_, rfl⟩
            rw [hu] at q0 q1 htl
            have q0 : wr.cell? ⟨b, off + k * 2, none⟩ = some (.int .i64 uk) := q0
            have q1 : wr.cell? ⟨b, off + k * 2 + 1, none⟩ = some (.int .i64 ua) := q1
            have htl : ua < a ∨ ua = a ∧ uk < key := htl
            clear hu
            have HN2 : Hid (∀ j, j < k + 1 → tlt (gt D1 j) ⟨key, a⟩ = true) := hid (fun j hj => by
              rcases Nat.lt_or_ge j k with h1 | h1
              · exact HN.out j h1
              · obtain rfl : j = k := by omega
                exact HTl.out)
            rcases htl with h | ⟨rfl, h⟩
            · go_wp2
              go_roundw
              case rel => exact ⟨k + 1, by omega, by go_num, HN2, HB⟩
              case measure => simp [intOf]; omega
            · have e1 : (ua == ua) = true := by simp
              go_wp2
              go_roundw
              case rel => exact ⟨k + 1, by omega, by go_num, HN2, HB⟩
              case measure => simp [intOf]; omega
end Go.Proofs.Ytnachendenodkaa.whl
