/-
  Chapter 3 (wheel): the law WheelSorted, by a walk of its text. Conditions: none but those typed.
-/
import Derived.Test.YtnachendenodkaaWhlM
namespace Go.Proofs.Ytnachendenodkaa.whl
set_option linter.unusedVariables false
set_option linter.unusedSimpArgs false
open Go.ChangeShapes Go.WideShapes Go.ChangeAt Go.RowKit Go.IntWalk Go.Lib
/-- What the first i settings make of a wheel. -/
structure Fill (K : List Int) (i : Nat) (L : List Tm) : Prop where
  len : L.length ≤ i
  fro : ∀ t ∈ L, ∃ k, k < i ∧ K.getD k 0 = t.k
  all : ∀ k, k < i → has L (K.getD k 0) = true
theorem Fill.step {K : List Int} {i : Nat} {L : List Tm} (h : Fill K i L) (a : Int) : Fill K (i + 1) (rm L (K.getD i 0) ++ [⟨K.getD i 0, a⟩]) := by
  refine ⟨?_, fun t ht => ?_, fun k hk => ?_⟩
  · rw [List.length_append]
    have := List.length_filter_le (fun t : Tm => !(t.k == K.getD i 0)) L
    have := h.len
    show (rm L _).length + 1 ≤ _
    unfold rm
    omega
  · rcases List.mem_append.1 ht with e | e
    · obtain ⟨k, hk, e2⟩ := h.fro t (rm_not e).1
      exact ⟨k, by omega, e2⟩
    · rw [show t = ⟨K.getD i 0, a⟩ from by simpa using e]
      exact ⟨i, by omega, rfl⟩
  · by_cases e : K.getD k 0 = K.getD i 0
    · exact has_yes (t := ⟨K.getD i 0, a⟩) (by simp) e.symm
    · have hki : k < i := by
        rcases Nat.lt_or_ge k i with h1 | h1
        · exact h1
        · exact absurd (by rw [show k = i from by omega]) e
      have h2 := h.all k hki
      unfold has at h2
      rw [List.any_eq_true] at h2
      obtain ⟨t, ht, e2⟩ := h2
      have e2 : t.k = K.getD k 0 := by simpa using e2
      refine has_yes (t := t) (List.mem_append_left _ ?_) e2
      unfold rm
      rw [List.mem_filter]
      exact ⟨ht, by simp [e2]; exact e⟩
theorem WX.row {w0 w w' : World} {g base : Nat} {vs : List Value} {L : List Tm} {v : Value} {q : List Int} (h : WX w0 w g vs L) (hv : Own .i64 3 w base v q) (hb : w0.heap.size ≤ base) (o : Only v.ownBlock.toList w w') : WX w0 w' g vs L := by
  have key : ∀ b, v.ownBlock = some b → ∃ cs, Ob w b 3 cs := fun b hb => by
    rcases hv.1.2 with ⟨e, _⟩ | ⟨b', cap, cur, e, _, hh, _⟩
    · rw [e] at hb; cases hb
    · rw [e] at hb
      obtain rfl : b' = b := by simpa [Value.ownBlock] using hb
      exact ⟨cur, hh⟩
  refine ⟨h.v.only o (fun hm => ?_) (fun b hb2 hm => ?_), h.o.fresh o (fun i hi => .inr (Nat.le_trans hb (hv.lt i (by simpa using hi)).1)), h.lo, h.bl⟩
  · obtain ⟨cs, hc⟩ := key g (by simpa using hm)
    have h1 := h.v.r.ob
    unfold Ob at h1 hc
    rw [h1] at hc
    injection hc with hc; injection hc with _ hc
    exact absurd hc (by decide)
  · obtain ⟨cs, hc⟩ := key b (by simpa using hm)
    obtain ⟨s, hs, e⟩ := mem_blocks hb2
    rcases (h.v.r.own s (by rw [← h.v.r.n64]; exact hs)).2 with ⟨e2, _⟩ | ⟨b', cap, cur, e2, _, hh, _⟩
    · rw [e2] at e; cases e
    · rw [e2] at e
      obtain rfl : b' = b := by simpa [Value.ownBlock] using e
      unfold Ob at hc
      rw [hh] at hc
      injection hc with hc; injection hc with _ hc
      exact absurd hc (by decide)
theorem elemI2 : Elem Try.prog 38 3 .i64 8 := ⟨Try.underlying38, by kernel_rfl⟩
theorem wf_ran {a : Int} (h0 : 0 ≤ a) (h1 : a ≤ 1099511627776) : (Lit.int .i64 a).wf = true := (Lit.wf_int_iff .i64 a).2 ⟨by show (-9223372036854775808 : Int) ≤ a; omega, by show a ≤ (9223372036854775807 : Int); omega⟩
theorem getD_app (q : List Int) (a : Int) (k : Nat) : (q ++ [a]).getD k 0 = if k < q.length then q.getD k 0 else if k = q.length then a else 0 := by
  simp only [List.getD_eq_getElem?_getD, List.getElem?_append]
  split
  · rfl
  · by_cases e : k = q.length
    · simp [e]
    · rw [if_neg e, List.getElem?_eq_none (by simp; omega)]; rfl
set_option maxRecDepth 100000 in
set_option maxHeartbeats 8000000 in
theorem sorted (w : World) (A B : Option Addr) (n m cA cB : Nat) (K U : List Int) (hK : Rd .i64 w A n K) (hU : Rd .i64 w B m U) : Calls Try.prog 8 #[.slice A n cA, .slice B m cB] w fun x w' => x = .returned (.bool true) ∧ Only [] w w' := by
  have hz := zeroW
  have H0 := hid (newX w)
  have HK := hid hK; have HU := hid hU
  clear hK hU
  have QR : Hid (Only [] w w) := hid (Only.refl _ _)
  by_cases hn : n ≤ 256
  · by_cases hm : n ≤ m
    · have hn0 : ¬ (256 : Int) < n := by omega
      have hm0 : ¬ (m : Int) < n := by omega
      go_enter Try.func8, Try.ntmps8
      go_wp2_with fail
      generalize w.alloc (.cells newC 27) = W0 at *
      go_loopw [6] (fun i wr => ∃ (k : Nat) (vs : List Value) (L : List Tm), k ≤ n ∧ i = .int .i64 k ∧ Hid (WX w wr w.heap.size vs L) ∧ Hid (Fill K k L)) (fun i _ => n - (intOf i).toNat)
      case atStart => exact ⟨0, vs0, [], by omega, rfl, H0, hid ⟨by simp, fun t ht => (by cases ht), fun k hk => absurd hk (by omega)⟩⟩
      case round =>
        clear H0
        obtain ⟨i, vs, L, hi, rfl, HX, HF⟩ := hrel
        by_cases hlt : i < n
        · obtain ⟨bK, oK, rfl, _, hcK⟩ := HK.out.at_ (by omega)
          obtain ⟨bU, oU, rfl, _, hcU⟩ := HU.out.at_ (by omega)
          have q0 := hcK i hlt
          have q1 := hcU i (by omega)
          have hFs := HF.out.step (U.getD i 0)
          have hlen := HF.out.len
          obtain ⟨uk, huk⟩ : ∃ uk, K.getD i 0 = uk := ⟨_, rfl⟩
          obtain ⟨ua, hua⟩ : ∃ ua, U.getD i 0 = ua := ⟨_, rfl⟩
          rw [huk] at q0 hFs; rw [hua] at q1 hFs
          clear huk hua hcK hcU
          have oX := HX.out.o
          have HQ := hid (show ∀ W, Only [] wr W → W.cell? ⟨bK, oK + i, none⟩ = some (.int .i64 uk) ∧ W.cell? ⟨bU, oU + i, none⟩ = some (.int .i64 ua) from fun W o => ⟨(oX.trans o).keep q0, (oX.trans o).keep q1⟩)
          have q1 := (HQ.out wr (Only.refl _ _)).2
          have HFs := hid hFs
          clear q0 hFs oX
          by_cases a1 : 0 ≤ ua
          · by_cases a2 : ua ≤ 1099511627776
            · have HE : Hid (setE L uk ua = 0 ∧ setS L uk ua = rm L uk ++ [⟨uk, ua⟩]) := hid (by have e := setE_ok (L := L) (key := uk) a1 a2 (by omega); exact ⟨e, setS_ok e⟩)
              have HIn : Hid (Fill K (i + 1) (rm L uk ++ [⟨uk, ua⟩])) := HFs
              clear hlen HFs
              go_wp2_with fail
              refine wp_region_noPanic ?_
              refine rgn.regionT (R := AnyW) (by kernel_rfl) (fun _ => AnyW.any _ _) (fun _ _ _ _ _ => AnyW.any _ _) (fun _ _ _ _ _ h => h) (.y 0 (.y 1 (.y 2 (.y 3 (.y 5 (.y 6 (.y 7 (.b 4 8 (.e 8 (.e 9 .z)) (.e 4 (.e 9 .z)))))))))) (by kernel_rfl) (fun W hWd => ?_)
              have HWd := hid hWd; clear hWd
              have HOW : Hid (Only [] wr W) := hid (Only.eq_drew (Only.refl _ _) HWd.out)
              have HX := hid (HX.out.only_nil HOW.out)
              clear HWd
              refine rgn.Walk.ys (v := ?_) rfl rfl rfl ?_ ?_
              rotate_left 1
              · intro W' hW'
                go_simp
                try with_reducible rfl
              try simp only [Act.put, List.setIfInBounds_toArray, List.set_cons_zero, List.set_cons_succ]
              refine rgn.Walk.ys (v := ?_) rfl rfl rfl ?_ ?_
              rotate_left 1
              · intro W' hW'
                go_simp
                try with_reducible rfl
              try simp only [Act.put, List.setIfInBounds_toArray, List.set_cons_zero, List.set_cons_succ]
              refine rgn.Walk.ys (v := ?_) rfl rfl rfl ?_ ?_
              rotate_left 1
              · intro W' hW'
                go_simp
                try with_reducible rfl
              try simp only [Act.put, List.setIfInBounds_toArray, List.set_cons_zero, List.set_cons_succ]
              refine rgn.Walk.ys (v := ?_) rfl rfl rfl ?_ ?_
              rotate_left 1
              · intro W' hW'
                go_simp
                try with_reducible rfl
              try simp only [Act.put, List.setIfInBounds_toArray, List.set_cons_zero, List.set_cons_succ]
              refine rgn.Walk.ys (v := ?_) rfl rfl rfl ?_ ?_
              rotate_left 1
              · intro W' hW'
                go_simp
                try with_reducible rfl
              try simp only [Act.put, List.setIfInBounds_toArray, List.set_cons_zero, List.set_cons_succ]
              refine rgn.Walk.ys (v := ?_) rfl rfl rfl ?_ ?_
              rotate_left 1
              · intro W' hW'
                go_simp
                try with_reducible rfl
              try simp only [Act.put, List.setIfInBounds_toArray, List.set_cons_zero, List.set_cons_succ]
              refine rgn.Walk.ys (v := ?_) rfl rfl rfl ?_ ?_
              rotate_left 1
              · intro W' hW'
                go_simp
                try with_reducible rfl
              try simp only [Act.put, List.setIfInBounds_toArray, List.set_cons_zero, List.set_cons_succ]
              refine rgn.Walk.bs ?_ ?_
              · refine rgn.stepE rfl rfl (fun K hK => ?_)
                obtain ⟨q0, q1⟩ := HQ.out W HOW.out
                go_simp
                refine hK _ _ (AnyW.any _ _) ?_
                clear hK K q0 q1
                try simp only [Act.put, List.setIfInBounds_toArray, List.set_cons_zero, List.set_cons_succ]
                refine rgn.Walk.es ?_
                refine rgn.stepE rfl rfl (fun K hK => ?_)
                obtain ⟨q0, q1⟩ := HQ.out W HOW.out
                go_simp
                refine hK _ _ (AnyW.any _ _) ?_
                clear hK K q0 q1
                try simp only [Act.put, List.setIfInBounds_toArray, List.set_cons_zero, List.set_cons_succ]
                refine rgn.Walk.es ?_
                refine rgn.stepE rfl rfl (fun K hK => ?_)
                go_simp
                refine (setX w W _ _ _ uk ua HX.out).mono ?_
                rintro x w4 ⟨rfl, vs4, h4⟩
                refine hK _ _ (AnyW.any _ _) ?_
                clear hK K
                try simp only [Act.put, List.setIfInBounds_toArray, List.set_cons_zero, List.set_cons_succ]
                rw [HE.out.2] at h4
                have HX := hid h4; clear h4
                refine rgn.Walk.zs (NoPanic.normal ?_)
                go_wp2
                go_roundw
                case rel => exact ⟨i + 1, vs4, _, by omega, by go_num, HX, HIn⟩
                case measure => simp [intOf]; omega
              · refine rgn.stepE rfl rfl (fun K hK => ?_)
                obtain ⟨q0, q1⟩ := HQ.out W HOW.out
                go_simp
                refine hK _ _ (AnyW.any _ _) ?_
                clear hK K q0 q1
                try simp only [Act.put, List.setIfInBounds_toArray, List.set_cons_zero, List.set_cons_succ]
                refine rgn.Walk.es ?_
                refine rgn.stepE rfl rfl (fun K hK => ?_)
                obtain ⟨q0, q1⟩ := HQ.out W HOW.out
                go_simp
                refine hK _ _ (AnyW.any _ _) ?_
                clear hK K q0 q1
                try simp only [Act.put, List.setIfInBounds_toArray, List.set_cons_zero, List.set_cons_succ]
                refine rgn.Walk.es ?_
                refine rgn.stepE rfl rfl (fun K hK => ?_)
                go_simp
                refine (setX w W _ _ _ uk ua HX.out).mono ?_
                rintro x w4 ⟨rfl, vs4, h4⟩
                refine hK _ _ (AnyW.any _ _) ?_
                clear hK K
                try simp only [Act.put, List.setIfInBounds_toArray, List.set_cons_zero, List.set_cons_succ]
                rw [HE.out.2] at h4
                have HX := hid h4; clear h4
                refine rgn.Walk.zs (NoPanic.normal ?_)
                go_wp2
                go_roundw
                case rel => exact ⟨i + 1, vs4, _, by omega, by go_num, HX, HIn⟩
                case measure => simp [intOf]; omega
            · clear HFs
              go_wp2_with fail
              refine (known1 _).mono ?_
              rintro x w9 ⟨rfl, o9⟩
              have Q9 := hid (HX.out.o.trans o9); clear o9
              go_wp2_with fail
              go_ret
              exact ⟨rfl, Q9.out⟩
          · clear HFs
            go_wp2_with fail
            refine (known1 _).mono ?_
            rintro x w9 ⟨rfl, o9⟩
            have Q9 := hid (HX.out.o.trans o9); clear o9
            go_wp2_with fail
            go_ret
            exact ⟨rfl, Q9.out⟩
        · obtain rfl : n = i := by omega
          have hL := HF.out.len
          have HWf : Hid (∀ t ∈ L, (Lit.int .i64 t.k).wf = true) := hid (fun t ht => by obtain ⟨k, hk, e⟩ := HF.out.fro t ht; rw [← e]; exact HK.out.getD_wf k hk)
          go_wp2_with fail
          go_loopw [8, 7] (fun i v wr => ∃ (k : Nat) (q : List Int), k ≤ n ∧ i = .int .i64 k ∧ Hid (q.length = k) ∧ Hid (Own .i64 3 wr w.heap.size v q) ∧ Hid (∀ j, j < k → ∃ t, t ∈ L ∧ t.k = K.getD j 0 ∧ t.a = q.getD j 0) ∧ Hid (WX w wr w.heap.size vs L)) (fun i _ _ => n - (intOf i).toNat)
          case atStart => exact ⟨0, [], by omega, rfl, hid rfl, hid (Own.nil _ _ _ _), hid (fun j hj => absurd hj (by omega)), HX⟩
          case round =>
            clear HX
            obtain ⟨k, q, hk, rfl, Hq, HO, HJ, HX⟩ := hrel
            by_cases hlt : k < n
            · obtain ⟨bK, oK, rfl, _, hcK⟩ := HK.out.at_ (by omega)
              have q0 := HX.out.o.keep (hcK k hlt)
              have hall := HF.out.all k hlt
              obtain ⟨uk, huk⟩ : ∃ uk, K.getD k 0 = uk := ⟨_, rfl⟩
              have HUk := hid huk
              rw [huk] at q0 hall
              have HAll := hid hall
              clear huk hcK hall
              go_wp2_with fail
              refine (atL _ _ _ _ uk HX.out.v).mono ?_
              rintro x w4 ⟨hx, o4⟩
              obtain ⟨t, ta, ht, htk, hta, rfl⟩ : ∃ t ta, t ∈ L ∧ t.k = uk ∧ t.a = ta ∧ x = .returned (.tuple #[.int .i64 ta, .bool true]) := by
                rcases hx with ⟨_, h⟩ | ⟨t, h1, h2, h3⟩
                · rw [HAll.out] at h; cases h
                · exact ⟨t, _, h1, h2, rfl, h3⟩
              have HX := hid (HX.out.only_nil o4)
              have HO := hid (HO.out.only_nil o4)
              have hran := HX.out.v.ran t ht
              have HT := hid ht; have HTk := hid htk
              clear hx o4 q0 ht htk
              rw [hta] at hran
              have HTa := hid hta
              clear hta
              have hwa := wf_ran hran.1 hran.2
              have HRo : Hid (Rd .i64 (w4.alloc (.cells #[.int .i64 ta] 3)) (some ⟨w4.heap.size, 0, none⟩) 1 [ta]) := hid (rd_rowI (Ob.new w4 3 #[.int .i64 ta]) rfl (by intro x hx; rw [show x = ta from by simpa using hx]; exact hwa))
              have HOA : Hid (Own .i64 3 (w4.alloc (.cells #[.int .i64 ta] 3)) w.heap.size u7 q) := hid (HO.out.alloc _)
              have HXA := hid (HX.out.only_nil ((Only.refl [] w4).alloc (.cells #[.int .i64 ta] 3)))
              have hql : q.length ≤ 256 := by rw [Hq.out]; omega
              clear hwa hran
              go_wp2_with (at_builtin; refine wpList_app _ rfl (.tmp 73) (.tmp 75) _ rfl elemI2 w.heap.size _ q rfl HOA.out (some ⟨w4.heap.size, 0, none⟩) 1 1 [ta] rfl HRo.out (by intro e; cases e) (by omega) (by unfold maxLen; omega) HXA.out.o.size ?_)
              intro v5 w5 hv5 hg5 hb5
              have oG : Only u7.ownBlock.toList (w4.alloc (.cells #[.int .i64 ta] 3)) w5 := (Only.refl _ _).of_grown hg5 (fun k hk => .inl (by rw [hk]; simp))
              have HX5 := hid (HXA.out.row HOA.out (Nat.le_refl _) oG)
              have HO5 := hid hv5
              clear hv5 hg5 hb5 oG
              go_wp2
              go_roundw
              case rel =>
                refine ⟨k + 1, q ++ [ta], by omega, by go_num, hid (by rw [List.length_append, Hq.out]; rfl), HO5, hid (fun j hj => ?_), HX5⟩
                rw [getD_app, Hq.out]
                rcases Nat.lt_or_ge j k with h1 | h1
                · rw [if_pos h1]; exact HJ.out j h1
                · obtain rfl : j = k := by omega
                  rw [if_neg (Nat.lt_irrefl _), if_pos rfl]
                  exact ⟨t, HT.out, by rw [HTk.out, HUk.out], HTa.out⟩
              case measure => simp [intOf]; omega
            · obtain rfl : n = k := by omega
              clear hk hlt
              have hkey := HX.out.v.key
              have HSub : Hid (dues L 1099511627776 = L ∧ lates L 1099511627776 = []) := hid ⟨List.filter_eq_self.2 (fun t ht => by have := (HX.out.v.ran t ht).2; simp [isDue, this]), List.filter_eq_nil_iff.2 (fun t ht => by have := (HX.out.v.ran t ht).2; simp [isDue, this])⟩
              have HKey := hid hkey
              clear hkey
              go_wp2_with fail
              refine (dueL _ _ _ _ 1099511627776 HX.out.v).mono ?_
              rintro x w6 ⟨E, b, rfl, h1, h2, h3, h4, vs', h5, h6, h7⟩
              rw [HSub.out.1] at h1
              rw [HSub.out.2] at h5
              have hkE : (keys E).Nodup := keys_perm h1 HKey.out
              have HSr := hid (srt_of hkE h2)
              have HKE := hid hkE
              have HPm := hid h1
              have hEl : E.length ≤ 256 := by rw [h1.length_eq]; have := HX.out.v.most; exact this
              have HX6 : Hid (WX w w6 w.heap.size vs' []) := hid ⟨h5, HX.out.o.fresh h7 (fun i hi => .inr (by rw [show i = w.heap.size from by simpa using hi]; exact Nat.le_refl _)), Nat.le_refl _, fun c hc => (h6 c hc).1.elim (HX.out.bl c) (Nat.le_trans HX.out.o.size)⟩
              obtain ⟨Aq, cq, ev, _, _, hRq, hAq⟩ := HO.out.slice
              have HQ6 : Hid (Rd .i64 w6 Aq q.length q) := hid (hRq.only h7 (fun bq oq e _ hm => by
                have e2 := hAq bq oq e
                obtain ⟨cs, hc⟩ : ∃ cs, Ob wr bq 3 cs := by
                  rcases HO.out.1.2 with ⟨e3, _⟩ | ⟨b', cap, cur, e3, _, hh, _⟩
                  · rw [e3] at e2; cases e2
                  · rw [e3] at e2
                    obtain rfl : b' = bq := by simpa [Value.ownBlock] using e2
                    exact ⟨cur, hh⟩
                have h8 := HX.out.v.r.ob
                rw [show bq = w.heap.size from by simpa using hm] at hc
                unfold Ob at h8 hc
                rw [h8] at hc
                injection hc with hc; injection hc with _ hc
                exact absurd hc (by decide)))
              have HE6 : Hid (Rd .i64 w6 (some ⟨b, 0, none⟩) E.length (keys E)) := hid (rd_rowI h4 (keys_len E) (fun x hx => by obtain ⟨t, ht, rfl⟩ := List.mem_map.1 hx; exact HWf.out t (HPm.out.subset ht)))
              rw [Hq.out] at HQ6 ev
              subst ev
              clear h1 h2 h3 h4 h5 h6 h7 hkE hRq hAq HO HX
              obtain ⟨ne, hne⟩ : ∃ ne, E.length = ne := ⟨_, rfl⟩
              have HNe := hid hne
              rw [hne] at HE6 hEl
              rw [hne]
              clear hne
              go_wp2_with fail
              go_loopw [12] (fun i wr => ∃ p : Nat, p ≤ ne ∧ i = .int .i64 ((p : Int) + 1) ∧ Hid (Only [] w6 wr)) (fun i _ => (ne + 1) - (intOf i).toNat)
              case atStart => exact ⟨0, by omega, rfl, hid (Only.refl _ _)⟩
              case round =>
                obtain ⟨p, hp, rfl, HB⟩ := hrel
                by_cases hlt : p + 1 < ne
                · have hc1 : (p : Int) + 1 < ne := by omega
                  have hpE : p < E.length := by rw [HNe.out]; omega
                  have hpE1 : p + 1 < E.length := by rw [HNe.out]; exact hlt
                  have hL1 := HPm.out.subset (gt_mem E p hpE)
                  have hL2 := HPm.out.subset (gt_mem E (p + 1) hpE1)
                  have hss : tlt (gt E p) (gt E (p + 1)) = true := by
                    rw [gt_at E p hpE, gt_at E (p + 1) hpE1]
                    exact List.pairwise_iff_getElem.1 HSr.out p (p + 1) hpE hpE1 (by omega)
                  have hk1 : (keys E).getD p 0 = (gt E p).k := by simp [keys, gt, List.getD_eq_getElem?_getD, hpE]
                  have hk2 : (keys E).getD (p + 1) 0 = (gt E (p + 1)).k := by simp [keys, gt, List.getD_eq_getElem?_getD, hpE1]
                  obtain ⟨⟨k1, a1⟩, he1⟩ : ∃ e, gt E p = e := ⟨_, rfl⟩
                  obtain ⟨⟨k2, a2⟩, he2⟩ : ∃ e, gt E (p + 1) = e := ⟨_, rfl⟩
                  rw [he1] at hL1 hss hk1
                  rw [he2] at hL2 hss hk2
                  rw [tlt_iff] at hss
                  replace hss : a1 < a2 ∨ a1 = a2 ∧ k1 < k2 := hss
                  replace hk1 : (keys E).getD p 0 = k1 := hk1
                  replace hk2 : (keys E).getD (p + 1) 0 = k2 := hk2
                  have HL1 := hid hL1; have HL2 := hid hL2; have HSs := hid hss
                  have HC1 : Hid (∀ W, Only [] w6 W → W.cell? ⟨b, p, none⟩ = some (.int .i64 k1) ∧ W.cell? ⟨b, p + 1, none⟩ = some (.int .i64 k2)) := hid (fun W o => ⟨by have := (HE6.out.only_nil o).cell0 p (by omega); rwa [hk1] at this, by have := (HE6.out.only_nil o).cell0 (p + 1) (by omega); rwa [hk2] at this⟩)
                  clear hpE hpE1 hL1 hL2 hss hk1 hk2 he1 he2
                  go_wp2_with fail
                  go_loopw [15, 13, 14] (fun i x y wr => ∃ (k : Nat) (xv yv : Int), k ≤ n ∧ i = .int .i64 k ∧ x = .int .i64 xv ∧ y = .int .i64 yv ∧ Hid ((∃ j, j < k ∧ K.getD j 0 = k1) → xv = a1) ∧ Hid ((∃ j, j < k ∧ K.getD j 0 = k2) → yv = a2) ∧ Hid (Only [] w6 wr)) (fun i _ _ _ => n - (intOf i).toNat)
                  case atStart => exact ⟨0, 0, 0, by omega, rfl, rfl, rfl, hid (fun ⟨j, hj, _⟩ => absurd hj (by omega)), hid (fun ⟨j, hj, _⟩ => absurd hj (by omega)), HB⟩
                  case round =>
                    clear HB
                    obtain ⟨k, xv, yv, hk, rfl, rfl, rfl, HXv, HYv, HB⟩ := hrel
                    by_cases hkn : k < n
                    · have hkz : (k : Int) < n := by omega
                      obtain ⟨bK, oK, rfl, _, hcK⟩ := HK.out.at_ (by omega)
                      have q0 := (HX6.out.o.trans HB.out).keep (hcK k hkn)
                      obtain ⟨bq, oq, rfl, _, hcq⟩ := (HQ6.out.only_nil HB.out).at_ (by omega)
                      have q1 := hcq k hkn
                      obtain ⟨q2, q3⟩ := HC1.out wr HB.out
                      obtain ⟨t, ht, htk, hta⟩ := HJ.out k hkn
                      have hA1 : K.getD k 0 = k1 → q.getD k 0 = a1 := fun e => by
                        have := key_one HKey.out ht HL1.out (by rw [htk, e])
                        rw [← hta, this]
                      have hA2 : K.getD k 0 = k2 → q.getD k 0 = a2 := fun e => by
                        have := key_one HKey.out ht HL2.out (by rw [htk, e])
                        rw [← hta, this]
                      have HXn : Hid (∀ xv', (K.getD k 0 = k1 → xv' = a1) → (K.getD k 0 ≠ k1 → xv' = xv) → (∃ j, j < k + 1 ∧ K.getD j 0 = k1) → xv' = a1) := hid (fun xv' h1 h2 ⟨j, hj, e⟩ => by
                        by_cases e1 : K.getD k 0 = k1
                        · exact h1 e1
                        · rw [h2 e1]
                          refine HXv.out ⟨j, ?_, e⟩
                          rcases Nat.lt_or_ge j k with h3 | h3
                          · exact h3
                          · exact absurd (by rw [← show j = k from by omega]; exact e) e1)
                      have HYn : Hid (∀ yv', (K.getD k 0 = k2 → yv' = a2) → (K.getD k 0 ≠ k2 → yv' = yv) → (∃ j, j < k + 1 ∧ K.getD j 0 = k2) → yv' = a2) := hid (fun yv' h1 h2 ⟨j, hj, e⟩ => by
                        by_cases e1 : K.getD k 0 = k2
                        · exact h1 e1
                        · rw [h2 e1]
                          refine HYv.out ⟨j, ?_, e⟩
                          rcases Nat.lt_or_ge j k with h3 | h3
                          · exact h3
                          · exact absurd (by rw [← show j = k from by omega]; exact e) e1)
                      obtain ⟨uk, huk⟩ : ∃ uk, K.getD k 0 = uk := ⟨_, rfl⟩
                      obtain ⟨uq, huq⟩ : ∃ uq, q.getD k 0 = uq := ⟨_, rfl⟩
                      rw [huk] at q0 hA1 hA2 HXn HYn
                      rw [huq] at q1 hA1 hA2
                      clear huk huq hcK hcq ht htk hta t
                      by_cases e1 : uk = k1
                      · have hq1 := hA1 e1
                        have b1 : (uk == k1) = true := by simpa using e1
                        have HE1 := hid e1; have HQ1 := hid hq1
                        by_cases e2 : uk = k2
                        · have hq2 := hA2 e2
                          have b2 : (uk == k2) = true := by simpa using e2
                          have HE2 := hid e2; have HQ2 := hid hq2
                          clear hA1 hA2 e1 e2 hq1 hq2
                          go_wp2_with fail
                          go_quiet (fail)
                          go_wp2_with fail
                          go_quiet (fail)
                          go_wp2
                          go_roundw
                          case rel => exact ⟨k + 1, _, _, by omega, by go_num, rfl, rfl, hid (HXn.out _ (fun _ => HQ1.out) (fun h => absurd HE1.out h)), hid (HYn.out _ (fun _ => HQ2.out) (fun h => absurd HE2.out h)), hid (by repeat' (first | exact HB.out | refine Only.drew ?_ | refine Only.drewN ?_ _))⟩
                          case measure => simp [intOf]; omega
                        · have b2 : (uk == k2) = false := by simpa using e2
                          have HE2 := hid e2
                          clear hA1 hA2 e1 e2 hq1
                          go_wp2_with fail
                          go_quiet (fail)
                          go_wp2_with fail
                          go_quiet (fail)
                          go_wp2
                          go_roundw
                          case rel => exact ⟨k + 1, _, _, by omega, by go_num, rfl, rfl, hid (HXn.out _ (fun _ => HQ1.out) (fun h => absurd HE1.out h)), hid (HYn.out _ (fun h => absurd h HE2.out) (fun _ => rfl)), hid (by repeat' (first | exact HB.out | refine Only.drew ?_ | refine Only.drewN ?_ _))⟩
                          case measure => simp [intOf]; omega
                      · have b1 : (uk == k1) = false := by simpa using e1
                        have HE1 := hid e1
                        by_cases e2 : uk = k2
                        · have hq2 := hA2 e2
                          have b2 : (uk == k2) = true := by simpa using e2
                          have HE2 := hid e2; have HQ2 := hid hq2
                          clear hA1 hA2 e1 e2 hq2
                          go_wp2_with fail
                          go_quiet (fail)
                          go_wp2_with fail
                          go_quiet (fail)
                          go_wp2
                          go_roundw
                          case rel => exact ⟨k + 1, _, _, by omega, by go_num, rfl, rfl, hid (HXn.out _ (fun h => absurd h HE1.out) (fun _ => rfl)), hid (HYn.out _ (fun _ => HQ2.out) (fun h => absurd HE2.out h)), hid (by repeat' (first | exact HB.out | refine Only.drew ?_ | refine Only.drewN ?_ _))⟩
                          case measure => simp [intOf]; omega
                        · have b2 : (uk == k2) = false := by simpa using e2
                          have HE2 := hid e2
                          clear hA1 hA2 e1 e2
                          go_wp2_with fail
                          go_quiet (fail)
                          go_wp2_with fail
                          go_quiet (fail)
                          go_wp2
                          go_roundw
                          case rel => exact ⟨k + 1, _, _, by omega, by go_num, rfl, rfl, hid (HXn.out _ (fun h => absurd h HE1.out) (fun _ => rfl)), hid (HYn.out _ (fun h => absurd h HE2.out) (fun _ => rfl)), hid (by repeat' (first | exact HB.out | refine Only.drew ?_ | refine Only.drewN ?_ _))⟩
                          case measure => simp [intOf]; omega
                    · obtain rfl : n = k := by omega
                      obtain rfl : xv = a1 := HXv.out (by obtain ⟨j, hj, e⟩ := HF.out.fro _ HL1.out; exact ⟨j, hj, e⟩)
                      obtain rfl : yv = a2 := HYv.out (by obtain ⟨j, hj, e⟩ := HF.out.fro _ HL2.out; exact ⟨j, hj, e⟩)
                      obtain ⟨q2, q3⟩ := HC1.out wr HB.out
                      rcases HSs.out with h1 | ⟨rfl, h2⟩
                      · have b1 : ¬ yv < xv := by omega
                        have b1d : decide (yv < xv) = false := decide_eq_false b1
                        have b2 : (xv == yv) = false := by simp; omega
                        clear HSs
                        go_wp2_with fail
                        refine wp_region_noPanic ?_
                        refine rgn.regionT (R := Only []) (by kernel_rfl) (Only.refl []) (fun _ _ _ => Only.trans) (fun _ _ _ _ _ h => h) (.y 0 (.y 1 (.y 2 (.y 3 (.y 4 (.y 5 (.y 6 (.y 7 (.y 8 (.y 9 (.y 10 (.y 11 (.y 12 (.y 13 (.y 14 (.y 15 (.y 16 (.y 17 (.y 18 (.y 19 .z)))))))))))))))))))) (by kernel_rfl) (fun W hWd => ?_)
                        have HWd := hid hWd; clear hWd
                        have HBW : Hid (Only [] w6 W) := hid (by rw [HWd.out]; exact HB.out.drew)
                        clear HWd
                        refine rgn.Walk.ys (v := ?_) rfl rfl rfl ?_ ?_
                        rotate_left 1
                        · intro W' hW'
                          go_simp
                          try with_reducible rfl
                        try simp only [Act.put, List.setIfInBounds_toArray, List.set_cons_zero, List.set_cons_succ]
                        refine rgn.Walk.ys (v := ?_) rfl rfl rfl ?_ ?_
                        rotate_left 1
                        · intro W' hW'
                          go_simp
                          try with_reducible rfl
                        try simp only [Act.put, List.setIfInBounds_toArray, List.set_cons_zero, List.set_cons_succ]
                        refine rgn.Walk.ys (v := ?_) rfl rfl rfl ?_ ?_
                        rotate_left 1
                        · intro W' hW'
                          go_simp
                          try rw [b1d]
                          try with_reducible rfl
                        try simp only [Act.put, List.setIfInBounds_toArray, List.set_cons_zero, List.set_cons_succ]
                        refine rgn.Walk.ys (v := ?_) rfl rfl rfl ?_ ?_
                        rotate_left 1
                        · intro W' hW'
                          go_simp
                          try with_reducible rfl
                        try simp only [Act.put, List.setIfInBounds_toArray, List.set_cons_zero, List.set_cons_succ]
                        refine rgn.Walk.ys (v := ?_) rfl rfl rfl ?_ ?_
                        rotate_left 1
                        · intro W' hW'
                          go_simp
                          try with_reducible rfl
                        try simp only [Act.put, List.setIfInBounds_toArray, List.set_cons_zero, List.set_cons_succ]
                        refine rgn.Walk.ys (v := ?_) rfl rfl rfl ?_ ?_
                        rotate_left 1
                        · intro W' hW'
                          go_simp
                          try with_reducible rfl
                        try simp only [Act.put, List.setIfInBounds_toArray, List.set_cons_zero, List.set_cons_succ]
                        refine rgn.Walk.ys (v := ?_) rfl rfl rfl ?_ ?_
                        rotate_left 1
                        · intro W' hW'
                          go_simp
                          try rw [b2]
                          try with_reducible rfl
                        try simp only [Act.put, List.setIfInBounds_toArray, List.set_cons_zero, List.set_cons_succ]
                        refine rgn.Walk.ys (v := ?_) rfl rfl rfl ?_ ?_
                        rotate_left 1
                        · intro W' hW'
                          go_simp
                          try with_reducible rfl
                        try simp only [Act.put, List.setIfInBounds_toArray, List.set_cons_zero, List.set_cons_succ]
                        refine rgn.Walk.yn rfl rfl rfl ?_
                        try simp only [Act.put, List.setIfInBounds_toArray, List.set_cons_zero, List.set_cons_succ]
                        refine rgn.Walk.yn rfl rfl rfl ?_
                        try simp only [Act.put, List.setIfInBounds_toArray, List.set_cons_zero, List.set_cons_succ]
                        refine rgn.Walk.yn rfl rfl rfl ?_
                        try simp only [Act.put, List.setIfInBounds_toArray, List.set_cons_zero, List.set_cons_succ]
                        refine rgn.Walk.yn rfl rfl rfl ?_
                        try simp only [Act.put, List.setIfInBounds_toArray, List.set_cons_zero, List.set_cons_succ]
                        refine rgn.Walk.yn rfl rfl rfl ?_
                        try simp only [Act.put, List.setIfInBounds_toArray, List.set_cons_zero, List.set_cons_succ]
                        refine rgn.Walk.yn rfl rfl rfl ?_
                        try simp only [Act.put, List.setIfInBounds_toArray, List.set_cons_zero, List.set_cons_succ]
                        refine rgn.Walk.yn rfl rfl rfl ?_
                        try simp only [Act.put, List.setIfInBounds_toArray, List.set_cons_zero, List.set_cons_succ]
                        refine rgn.Walk.yn rfl rfl rfl ?_
                        try simp only [Act.put, List.setIfInBounds_toArray, List.set_cons_zero, List.set_cons_succ]
                        refine rgn.Walk.yn rfl rfl rfl ?_
                        try simp only [Act.put, List.setIfInBounds_toArray, List.set_cons_zero, List.set_cons_succ]
                        refine rgn.Walk.yn rfl rfl rfl ?_
                        try simp only [Act.put, List.setIfInBounds_toArray, List.set_cons_zero, List.set_cons_succ]
                        refine rgn.Walk.ys (v := ?_) rfl rfl rfl ?_ ?_
                        rotate_left 1
                        · intro W' hW'
                          go_simp
                          try with_reducible rfl
                        try simp only [Act.put, List.setIfInBounds_toArray, List.set_cons_zero, List.set_cons_succ]
                        refine rgn.Walk.ys (v := ?_) rfl rfl rfl ?_ ?_
                        rotate_left 1
                        · intro W' hW'
                          go_simp
                          try with_reducible rfl
                        try simp only [Act.put, List.setIfInBounds_toArray, List.set_cons_zero, List.set_cons_succ]
                        refine rgn.Walk.zs (NoPanic.normal ?_)
                        go_wp2
                        go_roundw
                        case rel => exact ⟨p + 1, by omega, by go_num, hid HBW.out⟩
                        case measure => simp [intOf]; omega
                      · have b1 : ¬ xv < xv := by omega
                        have b1d : decide (xv < xv) = false := decide_eq_false b1
                        have b3d : decide (k2 ≤ k1) = false := decide_eq_false (by omega)
                        have b2 : (xv == xv) = true := by simp
                        have b3 : ¬ k2 ≤ k1 := by omega
                        clear HSs
                        go_wp2_with fail
                        refine wp_region_noPanic ?_
                        refine rgn.regionT (R := Only []) (by kernel_rfl) (Only.refl []) (fun _ _ _ => Only.trans) (fun _ _ _ _ _ h => h) (.y 0 (.y 1 (.y 2 (.y 3 (.y 4 (.y 5 (.y 6 (.y 7 (.y 8 (.y 9 (.y 10 (.y 11 (.y 12 (.y 13 (.y 14 (.y 15 (.y 16 (.y 17 (.y 18 (.y 19 .z)))))))))))))))))))) (by kernel_rfl) (fun W hWd => ?_)
                        have HWd := hid hWd; clear hWd
                        have HBW : Hid (Only [] w6 W) := hid (by rw [HWd.out]; exact HB.out.drew)
                        clear HWd
                        refine rgn.Walk.ys (v := ?_) rfl rfl rfl ?_ ?_
                        rotate_left 1
                        · intro W' hW'
                          go_simp
                          try with_reducible rfl
                        try simp only [Act.put, List.setIfInBounds_toArray, List.set_cons_zero, List.set_cons_succ]
                        refine rgn.Walk.ys (v := ?_) rfl rfl rfl ?_ ?_
                        rotate_left 1
                        · intro W' hW'
                          go_simp
                          try with_reducible rfl
                        try simp only [Act.put, List.setIfInBounds_toArray, List.set_cons_zero, List.set_cons_succ]
                        refine rgn.Walk.ys (v := ?_) rfl rfl rfl ?_ ?_
                        rotate_left 1
                        · intro W' hW'
                          go_simp
                          try rw [b1d]
                          try with_reducible rfl
                        try simp only [Act.put, List.setIfInBounds_toArray, List.set_cons_zero, List.set_cons_succ]
                        refine rgn.Walk.ys (v := ?_) rfl rfl rfl ?_ ?_
                        rotate_left 1
                        · intro W' hW'
                          go_simp
                          try with_reducible rfl
                        try simp only [Act.put, List.setIfInBounds_toArray, List.set_cons_zero, List.set_cons_succ]
                        refine rgn.Walk.ys (v := ?_) rfl rfl rfl ?_ ?_
                        rotate_left 1
                        · intro W' hW'
                          go_simp
                          try with_reducible rfl
                        try simp only [Act.put, List.setIfInBounds_toArray, List.set_cons_zero, List.set_cons_succ]
                        refine rgn.Walk.ys (v := ?_) rfl rfl rfl ?_ ?_
                        rotate_left 1
                        · intro W' hW'
                          go_simp
                          try with_reducible rfl
                        try simp only [Act.put, List.setIfInBounds_toArray, List.set_cons_zero, List.set_cons_succ]
                        refine rgn.Walk.ys (v := ?_) rfl rfl rfl ?_ ?_
                        rotate_left 1
                        · intro W' hW'
                          go_simp
                          try rw [b2]
                          try with_reducible rfl
                        try simp only [Act.put, List.setIfInBounds_toArray, List.set_cons_zero, List.set_cons_succ]
                        refine rgn.Walk.ys (v := ?_) rfl rfl rfl ?_ ?_
                        rotate_left 1
                        · intro W' hW'
                          go_simp
                          try with_reducible rfl
                        try simp only [Act.put, List.setIfInBounds_toArray, List.set_cons_zero, List.set_cons_succ]
                        refine rgn.Walk.ys (v := ?_) rfl rfl rfl ?_ ?_
                        rotate_left 1
                        · intro W' hW'
                          go_simp
                          try with_reducible rfl
                        try simp only [Act.put, List.setIfInBounds_toArray, List.set_cons_zero, List.set_cons_succ]
                        refine rgn.Walk.ys (v := ?_) rfl rfl rfl ?_ ?_
                        rotate_left 1
                        · intro W' hW'
                          go_simp
                          try with_reducible rfl
                        try simp only [Act.put, List.setIfInBounds_toArray, List.set_cons_zero, List.set_cons_succ]
                        refine rgn.Walk.ys (v := ?_) rfl rfl rfl ?_ ?_
                        rotate_left 1
                        · intro W' hW'
                          go_simp
                          try rw [i64_in _ (by omega)]
                          try with_reducible rfl
                        try simp only [Act.put, List.setIfInBounds_toArray, List.set_cons_zero, List.set_cons_succ]
                        refine rgn.Walk.ys (v := ?_) rfl rfl rfl ?_ ?_
                        rotate_left 1
                        · intro W' hW'
                          go_simp
                          first | rw [if_pos (by omega)] | skip
                          try with_reducible rfl
                        try simp only [Act.put, List.setIfInBounds_toArray, List.set_cons_zero, List.set_cons_succ]
                        refine rgn.Walk.ys (v := ?_) rfl rfl rfl ?_ ?_
                        rotate_left 1
                        · intro W' hW'
                          have qq := (HC1.out W' (HBW.out.trans hW')).1
                          go_simp
                          try with_reducible rfl
                        try simp only [Act.put, List.setIfInBounds_toArray, List.set_cons_zero, List.set_cons_succ]
                        refine rgn.Walk.ys (v := ?_) rfl rfl rfl ?_ ?_
                        rotate_left 1
                        · intro W' hW'
                          go_simp
                          try with_reducible rfl
                        try simp only [Act.put, List.setIfInBounds_toArray, List.set_cons_zero, List.set_cons_succ]
                        refine rgn.Walk.ys (v := ?_) rfl rfl rfl ?_ ?_
                        rotate_left 1
                        · intro W' hW'
                          go_simp
                          try with_reducible rfl
                        try simp only [Act.put, List.setIfInBounds_toArray, List.set_cons_zero, List.set_cons_succ]
                        refine rgn.Walk.ys (v := ?_) rfl rfl rfl ?_ ?_
                        rotate_left 1
                        · intro W' hW'
                          go_simp
                          try rw [if_pos (by omega)]
                          try with_reducible rfl
                        try simp only [Act.put, List.setIfInBounds_toArray, List.set_cons_zero, List.set_cons_succ]
                        refine rgn.Walk.ys (v := ?_) rfl rfl rfl ?_ ?_
                        rotate_left 1
                        · intro W' hW'
                          have qq := (HC1.out W' (HBW.out.trans hW')).2
                          go_simp
                          try with_reducible rfl
                        try simp only [Act.put, List.setIfInBounds_toArray, List.set_cons_zero, List.set_cons_succ]
                        refine rgn.Walk.ys (v := ?_) rfl rfl rfl ?_ ?_
                        rotate_left 1
                        · intro W' hW'
                          go_simp
                          try rw [b3d]
                          try with_reducible rfl
                        try simp only [Act.put, List.setIfInBounds_toArray, List.set_cons_zero, List.set_cons_succ]
                        refine rgn.Walk.ys (v := ?_) rfl rfl rfl ?_ ?_
                        rotate_left 1
                        · intro W' hW'
                          go_simp
                          try with_reducible rfl
                        try simp only [Act.put, List.setIfInBounds_toArray, List.set_cons_zero, List.set_cons_succ]
                        refine rgn.Walk.ys (v := ?_) rfl rfl rfl ?_ ?_
                        rotate_left 1
                        · intro W' hW'
                          go_simp
                          try with_reducible rfl
                        try simp only [Act.put, List.setIfInBounds_toArray, List.set_cons_zero, List.set_cons_succ]
                        refine rgn.Walk.zs (NoPanic.normal ?_)
                        go_wp2
                        go_roundw
                        case rel => exact ⟨p + 1, by omega, by go_num, hid HBW.out⟩
                        case measure => simp [intOf]; omega
                · have hc1 : ¬ (p : Int) + 1 < ne := by omega
                  have HX7 := hid (HX6.out.only_nil HB.out)
                  go_wp2_with fail
                  refine (lenX HX7.out).mono ?_
                  rintro x w8 ⟨rfl, h8⟩
                  have H8 := hid h8; clear h8
                  go_wp2_with fail
                  refine (known1 _).mono ?_
                  rintro x w9 ⟨rfl, o9⟩
                  have Q9 := hid (H8.out.o.trans o9); clear o9
                  go_wp2_with fail
                  go_ret
                  exact ⟨rfl, Q9.out⟩
    · have hm0 : (m : Int) < n := by omega
      have hn0 : ¬ (256 : Int) < n := by omega
      go_enter Try.func8, Try.ntmps8
      go_wp2_with fail
      refine (known1 _).mono ?_
      rintro x w9 ⟨rfl, o9⟩
      have Q9 := hid (QR.out.trans o9); clear o9
      go_wp2_with fail
      go_ret
      exact ⟨rfl, Q9.out⟩
  · have hn0 : (256 : Int) < n := by omega
    go_enter Try.func8, Try.ntmps8
    go_wp2_with fail
    refine (known1 _).mono ?_
    rintro x w9 ⟨rfl, o9⟩
    have Q9 := hid (QR.out.trans o9); clear o9
    go_wp2_with fail
    go_ret
    exact ⟨rfl, Q9.out⟩
end Go.Proofs.Ytnachendenodkaa.whl
