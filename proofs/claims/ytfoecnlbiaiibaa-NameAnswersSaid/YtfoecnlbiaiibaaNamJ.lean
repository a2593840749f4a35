/-
  Chapter 21 (name): the document's labels, by a walk of its text. Conditions: none but those typed.
-/
import Derived.Test.YtfoecnlbiaiibaaNamK
import Derived.Test.YtfoecnlbiaiibaaRga
namespace Go.Proofs.Ytfoecnlbiaiibaa.nam
set_option linter.unusedVariables false
set_option linter.unusedSimpArgs false
open Go.ChangeShapes Go.WideShapes Go.ChangeAt Go.RowKit Go.IntWalk Go.Lib
def AnyN (a b : World) : Prop := True
theorem AnyN.any (a b : World) : AnyN a b := trivial
theorem own_set1 {w : World} {base : Nat} {e : TypeId} {g n cap : Nat} {xs : List Value} (h : w.ownsRow base e 1 (.slice (some ⟨g, 0, none⟩) n cap) n xs) (j : Nat) (u : Value) : (w.setCell ⟨g, j, none⟩ u).ownsRow base e 1 (.slice (some ⟨g, 0, none⟩) n cap) n (xs.set j u) :=
  (World.ownsRow.stored h j u).1
theorem own_room {w : World} {base : Nat} {e : TypeId} {n c : Nat} {A : Option Addr} {xs : List Value} (h : w.ownsRow base e 1 (.slice A n c) n xs) (hn : 0 < n) : ∃ b, A = some ⟨b, 0, none⟩ ∧ base ≤ b ∧ b < w.heap.size ∧ ∀ j u, xs[j]? = some u → w.cell? ⟨b, j, none⟩ = some u ∧ w.frozen? ⟨b, j, none⟩ = false := by
  rcases h.2 with ⟨hv, h0⟩ | ⟨b, cap, cur, hv, hb, hh, hc, hm, hs, ht⟩
  · omega
  · injection hv with hv _ hv2
    subst hv
    have hlt := (h.lt b rfl).2
    refine ⟨b, rfl, hb, hlt, fun j u hj => ⟨?_, ?_⟩⟩
    · have := h.cells (g := b) rfl j u hj
      rwa [addr_plus, Nat.zero_add] at this
    · simp [World.frozen?, hh]
theorem rd_strs {w : World} {base : Nat} {n c : Nat} {A : Option Addr} {ls : List (List Int)} (h : w.ownsRow base 9 1 (.slice A n c) n (strs ls)) (hn : 0 < n) (hl : ls.length = n) : ∃ b, A = some ⟨b, 0, none⟩ ∧ base ≤ b ∧ b < w.heap.size ∧ ∀ j, j < n → w.cell? ⟨b, j, none⟩ = some (.string (strOfNums (ls.getD j []))) ∧ w.frozen? ⟨b, j, none⟩ = false := by
  obtain ⟨b, hA, h1, h2, h3⟩ := own_room h hn
  exact ⟨b, hA, h1, h2, fun j hj => h3 j _ (strs_at ls j (by omega))⟩
theorem strs_last (done : List (List Int)) (cur x : List Int) (d : Nat) (hd : done.length = d) : (strs (done ++ [cur])).set d (.string (strOfNums x)) = strs (done ++ [x]) := by
  subst hd
  unfold strs
  simp
theorem wr1 (d : Nat) (h : d ≤ 1000000) : IntKind.i64.wrap (((d + 1 : Nat) : Int) - 1) = (d : Int) := by rw [i64_in _ (by omega)]; omega
theorem wr2 (d : Nat) (h : d ≤ 1000000) : IntKind.i64.wrap ((d : Int) + 1 - 1) = (d : Int) := by rw [i64_in _ (by omega)]; omega
theorem wr3 (d : Nat) (h : d ≤ 1000000) : IntKind.i64.wrap (d : Int) = (d : Int) := by rw [i64_in _ (by omega)]
set_option maxHeartbeats 4000000 in
set_option maxRecDepth 100000 in
theorem labelsD (w : World) (s : ByteArray) (hs : s.size ≤ maxLen) : Calls Try.prog 28 #[.string s] w fun x w' => ∃ v, x = .returned (.tuple #[v, .bool (decide (s.size ≤ 253 ∧ ∀ l ∈ labsOf (chs s), okL l))]) ∧ Only [] w w' ∧ (s.size ≤ 253 ∧ (∀ l ∈ labsOf (chs s), okL l) → w'.ownsRow w.heap.size 9 1 v (labsOf (chs s)).length (strs (labsOf (chs s)))) := by
  have hL := chs_len s
  by_cases h0 : s.size = 0
  · have he : s.toList.isEmpty = true := by rw [str_isEmpty s 0 h0]; rfl
    have hL : chs s = [] := List.eq_nil_of_length_eq_zero (by rw [chs_len]; exact h0)
    have hd : decide (s.size ≤ 253 ∧ ∀ l ∈ labsOf (chs s), okL l) = true := decide_eq_true ⟨by omega, by rw [hL, labsOf_nil]; simp⟩
    rw [hd, hL, labsOf_nil]
    go_enter Try.func28, Try.ntmps28
    go_wp2
    go_ret2
    exact ⟨_, rfl, Only.refl _ _, fun _ => ⟨rfl, .inl ⟨rfl, rfl⟩⟩⟩
  have he : s.toList.isEmpty = false := by rw [str_isEmpty s _ rfl]; exact decide_eq_false h0
  by_cases h1 : 253 < s.size
  · have h0z : (253 : Int) < (s.size : Int) := by omega
    have hd : decide (s.size ≤ 253 ∧ ∀ l ∈ labsOf (chs s), okL l) = false := decide_eq_false (fun h => by omega)
    rw [hd]
    go_enter Try.func28, Try.ntmps28
    go_wp2
    go_ret2
    exact ⟨_, rfl, Only.refl _ _, fun h => absurd h.1 (by omega)⟩
  · have h0z : ¬ (253 : Int) < (s.size : Int) := by omega
    have hls := labs_size (chs s)
    have HD0 : Hid (decide (s.size ≤ 253 ∧ ∀ l ∈ labsOf (chs s), okL l) = decide (∀ l ∈ labsOf (chs s), okL l)) := hid (by simp; omega)
    rw [HD0.out]
    have HLs : Hid (labsOf (chs s) = cutF [] (chs s)) := hid (labsOf_ne (fun e => h0 (by rw [← hL, e]; rfl)))
    obtain ⟨n, hn⟩ : ∃ n, s.size = n := ⟨_, rfl⟩
    have HN := hid hn
    rw [hn] at h0z hL
    have hn1 : 0 < n ∧ n ≤ 253 := by omega
    obtain ⟨ls, hls2⟩ : ∃ ls, labsOf (chs s) = ls := ⟨_, rfl⟩
    rw [hls2] at hls HLs ⊢
    rw [hL] at hls
    obtain ⟨OK, hOK⟩ : ∃ OK, decide (∀ l ∈ ls, okL l) = OK := ⟨_, rfl⟩
    have HOK := hid hOK
    rw [hOK]
    have HFin : Hid (∀ (v : Value) (w' : World), w'.ownsRow w.heap.size 9 1 v ls.length (strs ls) → (s.size ≤ 253 ∧ (∀ l ∈ ls, okL l) → w'.ownsRow w.heap.size 9 1 v ls.length (strs ls))) := hid (fun _ _ h _ => h)
    have HHL := hid hL
    clear h0 h1 hs hls2 HD0 hOK hL
    go_enter Try.func28, Try.ntmps28
    go_wp2_with fail
    go_loopw [4, 5] (fun v4 v5 wr => ∃ (i : Nat) (v : Value) (done : List (List Int)) (cur : List Int), v = v4 ∧ v5 = .int .i64 i ∧ i ≤ n ∧ done.length ≤ i ∧ cur.length ≤ i ∧ Hid (wr.ownsRow w.heap.size 9 1 v (done.length + 1) (strs (done ++ [cur]))) ∧ Hid (Only [] w wr) ∧ Hid (done ++ cutF cur ((chs s).drop i) = ls)) (fun _ v5 _ => n - (RowKit.intOf v5).toNat)
    case atStart => exact ⟨0, _, [], [], rfl, rfl, by omega, by simp, by simp, hid (World.ownsRow_lit (base := w.heap.size) (e := 9) (size := 1) w #[.string ⟨#[]⟩] 1 (Nat.le_refl _) (by unfold maxLen; omega) rfl), hid ((Only.refl [] w).alloc _), hid HLs.out.symm⟩
    case round =>
      obtain ⟨i, v, done, cur, rfl, rfl, hi, hdl, hcl, HO, HB, HC⟩ := hrel
      by_cases hlt : i < n
      · have hltz : (i : Int) < (n : Int) := by omega
        have hix : ∀ W, (Instr.index 9 (.string s) (.int .i64 (i : Int))).run Try.prog W = .ok (.int .u8 (ch s i)) W := fun W => ixs s i (by rw [HN.out]; exact hlt) W
        have HDr : Hid ((chs s).drop i = ch s i :: (chs s).drop (i + 1)) := hid (by
          rw [List.drop_eq_getElem_cons (by rw [HHL.out]; exact hlt), ← chs_at, List.getD_eq_getElem?_getD, List.getElem?_eq_getElem (by rw [HHL.out]; exact hlt)]
          rfl)
        have HSg : Hid (seg (chs s) i (i + 1) = [ch s i]) := hid (by
          unfold seg
          rw [HDr.out, show i + 1 - i = 1 from by omega]
          rfl)
        obtain ⟨x, hx⟩ : ∃ x, ch s i = x := ⟨_, rfl⟩
        rw [hx] at hix HDr HSg
        clear hx
        by_cases h46 : x = 46
        · subst h46
          have HR3 := hid (rdS_one wr 9 (.string ⟨#[]⟩) rfl)
          have HO3 : Hid ((wr.alloc (.cells #[.string ⟨#[]⟩] 9)).ownsRow w.heap.size 9 1 v (done.length + 1) (strs (done ++ [cur]))) := hid (own_only_nil HO.out ((Only.refl [] wr).alloc _))
          have HB3 : Hid (Only [] w (wr.alloc (.cells #[.string ⟨#[]⟩] 9))) := hid (HB.out.alloc _)
          go_wp2_with (at_builtin; refine wpList_appS _ rfl (.tmp 23) (.tmp 24) _ rfl elemSt w.heap.size v (done.length + 1) (strs (done ++ [cur])) rfl HO3.out (some ⟨wr.heap.size, 0, none⟩) 1 1 [.string ⟨#[]⟩] rfl HR3.out (by intro e; cases e) (.inr ⟨_, _, rfl⟩) (by omega) (by unfold maxLen; omega) HB3.out.size ?_)
          intro v4 w4 hv4 hg4 hb4
          have HB4 : Hid (Only [] w w4) := hid (HB3.out.of_grown hg4 (fun k hk => by have := (own_lt HO3.out k hk).1; omega))
          have HO4 : Hid (w4.ownsRow w.heap.size 9 1 v4 ((done ++ [cur]).length + 1) (strs ((done ++ [cur]) ++ [[]]))) := hid (by
            rw [List.length_append, strs_app]
            exact hv4)
          clear hv4 hg4 hb4
          go_wp2_with fail
          go_roundw
          case measure => exact meas_idx hlt
          case rel => exact ⟨i + 1, v4, done ++ [cur], [], rfl, by first | rfl | go_num, by omega, by rw [List.length_append]; simp; omega, by simp, HO4, HB4, hid (by
            rw [← HC.out, HDr.out, cutF_dot]; simp)⟩
        · obtain ⟨A, c, rfl, hnc, hcm, _, _, _, _⟩ := RdS.of_own HO.out (strs_one _)
          obtain ⟨b, rfl, hb1, hb2, hcell⟩ := rd_strs HO.out (by omega) (by rw [List.length_append]; rfl)
          obtain ⟨q0, q1⟩ := hcell done.length (by omega)
          clear hcell
          have hgl : (done ++ [cur]).getD done.length [] = cur := by simp [List.getD_eq_getElem?_getD]
          rw [hgl] at q0
          clear hgl
          obtain ⟨d, hd⟩ : ∃ d, done.length = d := ⟨_, rfl⟩
          have HD := hid hd
          rw [hd] at q0 q1 hnc hdl HO ⊢
          obtain ⟨t, ht⟩ : ∃ t, strOfNums cur = t := ⟨_, rfl⟩
          have HT := hid ht
          rw [ht] at q0
          have hts : t.size = cur.length := by rw [← ht, strOf_size]
          have hcat : ¬ 9223372036854775807 < cur.length + (strOfNums [x]).size := by rw [strOf_size]; simp; omega
          have hd63 : d ≤ 1000000 := by omega
          have hdp : (d : Int) < (d : Int) + 1 := by omega
          have hsl : ∀ W : World, (Instr.slice 9 (.string s) (some (.int .i64 (i : Int))) (some (.int .i64 ((i : Int) + 1))) none).run Try.prog W = .ok (.string (strOfNums [x])) W := fun W => by
            have he9 := extract_seg s i (i + 1)
            rw [HSg.out] at he9
            rw [← he9]
            have q1 : (0 : Int) ≤ i ∧ (i : Int) ≤ (i : Int) + 1 := by omega
            have q2 : (i : Int) + 1 ≤ n := by omega
            go_simp
          have h46b : (x == 46) = false := by simpa using h46
          have HC9 : Hid (done ++ cutF (cur ++ [x]) ((chs s).drop (i + 1)) = ls) := hid (by rw [← HC.out, HDr.out, cutF_not _ _ h46])
          have HX46 := hid h46
          clear h46 hd ht
          go_wp2_with fail
          refine wp_region_noPanic ?_
          refine rgn.regionT (R := AnyN) (by kernel_rfl) (fun _ => AnyN.any _ _) (fun _ _ _ _ _ => AnyN.any _ _) (fun _ _ _ _ _ h => h) (.y 0 (.y 1 (.y 2 (.y 3 (.y 4 (.y 5 (.y 6 (.y 7 (.y 8 (.y 10 (.y 11 (.y 12 (.y 13 (.y 14 (.e 9 (.y 15 (.y 16 (.e 17 .z)))))))))))))))))) (by kernel_rfl) (fun W hWd => ?_)
          have HWd := hid hWd; clear hWd
          have o9 : Only [] wr W := by rw [HWd.out]; exact (Only.refl [] wr).drew
          have HQ0 : Hid (W.cell? ⟨b, d, none⟩ = some (.string t)) := hid (by rw [HWd.out]; exact q0)
          have HQ1 : Hid (W.frozen? ⟨b, d, none⟩ = false) := hid (by rw [HWd.out]; exact q1)
          have HO9 : Hid ((W.setCell ⟨b, d, none⟩ (.string (t ++ strOfNums [x]))).ownsRow w.heap.size 9 1 (.slice (some ⟨b, 0, none⟩) (d + 1) c) (done.length + 1) (strs (done ++ [cur ++ [x]]))) := hid (by
            rw [HD.out, ← HT.out, strOf_app]
            have h9 := own_set1 (own_only_nil HO.out o9) d (.string (strOfNums (cur ++ [x])))
            rw [strs_last _ _ _ _ HD.out] at h9
            exact h9)
          have HB9 : Hid (Only [] w (W.setCell ⟨b, d, none⟩ (.string (t ++ strOfNums [x])))) := hid (by
            have h9 : Only [] w W := by rw [HWd.out]; exact HB.out.drew
            exact h9.setCell (p := ⟨b, d, none⟩) (.inr hb1) _)
          clear HWd HO HB q0 q1 o9
          refine rgn.Walk.ys (v := ?_) rfl rfl rfl ?_ ?_
          rotate_left 1
          · intro W' hW'
            go_simp
            try with_reducible rfl
          try simp only [Act.put, List.setIfInBounds_toArray, List.set_cons_zero, List.set_cons_succ]
          refine rgn.Walk.ys (v := ?_) rfl rfl rfl ?_ ?_
          rotate_left 1
          · intro W' hW'
            go_simp
            try with_reducible rfl
          try simp only [Act.put, List.setIfInBounds_toArray, List.set_cons_zero, List.set_cons_succ]
          refine rgn.Walk.ys (v := ?_) rfl rfl rfl ?_ ?_
          rotate_left 1
          · intro W' hW'
            go_simp
            try with_reducible rfl
          try simp only [Act.put, List.setIfInBounds_toArray, List.set_cons_zero, List.set_cons_succ]
          refine rgn.Walk.ys (v := ?_) rfl rfl rfl ?_ ?_
          rotate_left 1
          · intro W' hW'
            go_simp
            first | rw [wr1 d hd63] | rw [wr2 d hd63] | rw [wr3 d hd63] | skip
            try with_reducible rfl
          try simp only [Act.put, List.setIfInBounds_toArray, List.set_cons_zero, List.set_cons_succ]
          refine rgn.Walk.ys (v := ?_) rfl rfl rfl ?_ ?_
          rotate_left 1
          · intro W' hW'
            go_simp
            try with_reducible rfl
          try simp only [Act.put, List.setIfInBounds_toArray, List.set_cons_zero, List.set_cons_succ]
          refine rgn.Walk.ys (v := ?_) rfl rfl rfl ?_ ?_
          rotate_left 1
          · intro W' hW'
            go_simp
            try with_reducible rfl
          try simp only [Act.put, List.setIfInBounds_toArray, List.set_cons_zero, List.set_cons_succ]
          refine rgn.Walk.ys (v := ?_) rfl rfl rfl ?_ ?_
          rotate_left 1
          · intro W' hW'
            go_simp
            try with_reducible rfl
          try simp only [Act.put, List.setIfInBounds_toArray, List.set_cons_zero, List.set_cons_succ]
          refine rgn.Walk.ys (v := ?_) rfl rfl rfl ?_ ?_
          rotate_left 1
          · intro W' hW'
            go_simp
            first | rw [wr1 d hd63] | rw [wr2 d hd63] | rw [wr3 d hd63] | skip
            try with_reducible rfl
          try simp only [Act.put, List.setIfInBounds_toArray, List.set_cons_zero, List.set_cons_succ]
          refine rgn.Walk.ys (v := ?_) rfl rfl rfl ?_ ?_
          rotate_left 1
          · intro W' hW'
            go_simp
            try with_reducible rfl
          try simp only [Act.put, List.setIfInBounds_toArray, List.set_cons_zero, List.set_cons_succ]
          refine rgn.Walk.ys (v := ?_) rfl rfl rfl ?_ ?_
          rotate_left 1
          · intro W' hW'
            go_simp
            try with_reducible rfl
          try simp only [Act.put, List.setIfInBounds_toArray, List.set_cons_zero, List.set_cons_succ]
          refine rgn.Walk.ys (v := ?_) rfl rfl rfl ?_ ?_
          rotate_left 1
          · intro W' hW'
            go_simp
            try with_reducible rfl
          try simp only [Act.put, List.setIfInBounds_toArray, List.set_cons_zero, List.set_cons_succ]
          refine rgn.Walk.ys (v := ?_) rfl rfl rfl ?_ ?_
          rotate_left 1
          · intro W' hW'
            go_simp
            try with_reducible rfl
          try simp only [Act.put, List.setIfInBounds_toArray, List.set_cons_zero, List.set_cons_succ]
          refine rgn.Walk.ys (v := ?_) rfl rfl rfl ?_ ?_
          rotate_left 1
          · intro W' hW'
            go_simp
            try rw [i64_in _ (by omega)]
            try with_reducible rfl
          try simp only [Act.put, List.setIfInBounds_toArray, List.set_cons_zero, List.set_cons_succ]
          refine rgn.Walk.ys (v := ?_) rfl rfl rfl ?_ ?_
          rotate_left 1
          · intro W' hW'
            go_simp
            try with_reducible rfl
          try simp only [Act.put, List.setIfInBounds_toArray, List.set_cons_zero, List.set_cons_succ]
          refine rgn.Walk.es ?_
          refine rgn.stepE rfl rfl (fun K hK => ?_)
          have q0 := HQ0.out
          go_simp
          refine hK _ _ (AnyN.any _ _) ?_
          clear hK K q0
          try simp only [Act.put, List.setIfInBounds_toArray, List.set_cons_zero, List.set_cons_succ]
          refine rgn.Walk.ys (v := ?_) rfl rfl rfl ?_ ?_
          rotate_left 1
          · intro W' hW'
            go_simp
            try with_reducible rfl
          try simp only [Act.put, List.setIfInBounds_toArray, List.set_cons_zero, List.set_cons_succ]
          refine rgn.Walk.ys (v := ?_) rfl rfl rfl ?_ ?_
          rotate_left 1
          · intro W' hW'
            go_simp
            try with_reducible rfl
          try simp only [Act.put, List.setIfInBounds_toArray, List.set_cons_zero, List.set_cons_succ]
          refine rgn.Walk.es ?_
          refine rgn.stepE rfl rfl (fun K hK => ?_)
          have q0 := HQ0.out
          have q1 := HQ1.out
          go_simp
          refine hK _ _ (AnyN.any _ _) ?_
          clear hK K q0 q1
          try simp only [Act.put, List.setIfInBounds_toArray, List.set_cons_zero, List.set_cons_succ]
          refine rgn.Walk.zs (NoPanic.normal ?_)
          go_wp2_with fail
          go_roundw
          case measure => exact meas_idx hlt
          case rel => exact ⟨i + 1, _, done, cur ++ [x], rfl, by first | rfl | go_num, by omega, by have := HD.out; omega, by rw [List.length_append]; simp; omega, HO9, HB9, HC9⟩
      · have hltz : ¬ (i : Int) < (n : Int) := by omega
        obtain rfl : i = n := by omega
        have hdr : (chs s).drop i = [] := List.drop_eq_nil_of_le (by rw [HHL.out]; exact Nat.le_refl _)
        have hlsd : done ++ [cur] = ls := by have := HC.out; rw [hdr, cutF_nil] at this; exact this
        have hlen : ls.length = done.length + 1 := by rw [← hlsd, List.length_append]; rfl
        rw [hlsd, ← hlen] at HO
        obtain ⟨m, hm⟩ : ∃ m, ls.length = m := ⟨_, rfl⟩
        have HM := hid hm
        rw [hm] at HO hlen hls
        clear hdr hlsd hlen hm HC
        obtain ⟨A, c, rfl, hnc, hcm, _, _, _, _⟩ := RdS.of_own HO.out (strs_one _)
        go_wp2_with fail
        go_loopw [6] (fun v6 wq => ∃ k : Nat, v6 = .int .i64 k ∧ k ≤ m ∧ Hid (wq = wr) ∧ Hid (∀ l ∈ ls.take k, okL l)) (fun v6 _ => m - (RowKit.intOf v6).toNat)
        case atStart => exact ⟨0, rfl, by omega, hid rfl, hid (by simp)⟩
        case round =>
          obtain ⟨k, rfl, hk, HWq, HK⟩ := hrel
          obtain rfl := HWq.out
          clear HWq
          by_cases hlt2 : k < m
          · have hltz2 : (k : Int) < (m : Int) := by omega
            obtain ⟨b, rfl, hb1, hb2, hcell⟩ := rd_strs HO.out (by omega) HM.out
            obtain ⟨q0, _⟩ := hcell k hlt2
            clear hcell
            have HMem := hid (getD_mem ls k (by rw [HM.out]; exact hlt2))
            have HTk := hid (take_next ls k (by rw [HM.out]; exact hlt2))
            obtain ⟨l, hl⟩ : ∃ l, ls.getD k [] = l := ⟨_, rfl⟩
            rw [hl] at q0 HMem HTk
            clear hl
            obtain ⟨z, hz⟩ : ∃ z, l.length = z := ⟨_, rfl⟩
            obtain ⟨t, ht⟩ : ∃ t, strOfNums l = t := ⟨_, rfl⟩
            have hts : t.size = z := by rw [← ht, strOf_size, hz]
            have HZ := hid hz
            rw [ht] at q0
            clear hz ht
            by_cases ok : okL l
            · have okm : 1 ≤ z ∧ z ≤ 63 := by unfold okL at ok; rw [HZ.out] at ok; exact ok
              have ok1 : ¬ (z : Int) < 1 := by omega
              have ok2 : ¬ (63 : Int) < (z : Int) := by omega
              have HK5 : Hid (∀ x ∈ ls.take (k + 1), okL x) := hid (fun x hx => by
                rw [HTk.out] at hx
                rcases List.mem_append.1 hx with h | h
                · exact HK.out x h
                · obtain rfl : x = l := by simpa using h
                  exact ok)
              clear ok okm
              go_wp2_with fail
              go_roundw
              case measure => exact meas_idx hlt2
              case rel => exact ⟨k + 1, by first | rfl | go_num, by omega, hid (by first | rfl | trivial), HK5⟩
            · obtain rfl : OK = false := by rw [← HOK.out]; exact decide_eq_false (fun e => ok (e l HMem.out))
              have HNo : Hid (¬ ∀ l ∈ ls, okL l) := hid (fun e => ok (e l HMem.out))
              by_cases ok1 : (z : Int) < 1
              · clear ok
                go_wp2_with fail
                try rw [Exit.noGoto_ret]
                go_ret2
                exact ⟨_, rfl, HB.out, fun h => absurd (by first | exact h.2 | exact h) HNo.out⟩
              · have ok2 : (63 : Int) < (z : Int) := by unfold okL at ok; rw [HZ.out] at ok; omega
                clear ok
                go_wp2_with fail
                try rw [Exit.noGoto_ret]
                go_ret2
                exact ⟨_, rfl, HB.out, fun h => absurd (by first | exact h.2 | exact h) HNo.out⟩
          · have hltz2 : ¬ (k : Int) < (m : Int) := by omega
            obtain rfl : k = m := by omega
            have hfull : ls.take k = ls := by rw [← HM.out]; exact List.take_length
            obtain rfl : OK = true := by rw [← HOK.out]; exact decide_eq_true (by rw [← hfull]; exact HK.out)
            clear hfull
            go_wp2_with fail
            go_ret2
            exact ⟨_, rfl, HB.out, fun _ => by rw [HM.out]; exact HO.out⟩
end Go.Proofs.Ytfoecnlbiaiibaa.nam
