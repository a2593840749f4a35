/-
  Every lease that is renewed. Conditions: none.
-/
import Derived.Test.YtdpmjghdmpaehaaEvLRC
namespace Go.Proofs.Ytdpmjghdmpaehaa.ev
set_option maxRecDepth 1000000
set_option linter.unusedVariables false
set_option linter.unusedSimpArgs false
theorem lrRounds {w0 : World} {QL : Exit → Act → World → Prop} (y sec r : Int) (hy0 : 1 ≤ y) (hy1 : y ≤ 4294967295) (hs0 : 14 ≤ sec) (hs1 : sec ≤ 100) (hr0 : 1 ≤ r) (hr1 : r ≤ 6) (hm0 : 10 * sec ≤ (10 * r) * sec) (hm1 : (10 * r) * sec ≤ 6000) (HQ6 : ∀ ar w t u, t = (10 * r) * sec → 2 ≤ u → u ≤ 6000 → Stands w0.heap.size (lrE_K6 y sec r t u) lrL_K6 ar w → Keep w0.heap.size w0 w → QL (.exit 0) ar w) (HQ7 : ∀ ar w t u, t = (10 * r) * sec → 2 ≤ u → u ≤ 6000 → Stands w0.heap.size (lrE_K7 y sec r t u) lrL_K7 ar w → Keep w0.heap.size w0 w → QL (.exit 0) ar w) : ∀ (k : Nat),
    (∀ (t u : Int) (ar : Act) (w : World), t = (10 * r) * sec - (k : Int) → 4 ≤ t → t ≤ 2 + 5 * sec → Stands w0.heap.size (lrE_G0 y sec r t u) lrL_G0 ar w → Keep w0.heap.size w0 w → Code.rounds Try.prog (inB (inB (seqR (seqL (seqR (seqR (seqR (seqR ((codeAt Try.prog 7)))))))))) QL (k + 1) ar w) ∧
    (∀ (t u : Int) (ar : Act) (w : World), t = (10 * r) * sec - (k : Int) → 2 ≤ u → u + 1 ≤ t → t ≤ u + 5 * sec → Stands w0.heap.size (lrE_K4 y sec r t u) lrL_K4 ar w → Keep w0.heap.size w0 w → Code.rounds Try.prog (inB (inB (seqR (seqL (seqR (seqR (seqR (seqR ((codeAt Try.prog 7)))))))))) QL (k + 1) ar w) ∧
    (∀ (t u : Int) (ar : Act) (w : World), t = (10 * r) * sec - (k : Int) → 2 ≤ u → u + 1 ≤ t → t ≤ u + 5 * sec → Stands w0.heap.size (lrE_K5 y sec r t u) lrL_K5 ar w → Keep w0.heap.size w0 w → Code.rounds Try.prog (inB (inB (seqR (seqL (seqR (seqR (seqR (seqR ((codeAt Try.prog 7)))))))))) QL (k + 1) ar w)
  | 0 => by
    refine ⟨?_, ?_, ?_⟩
    · intro t u ar w ht v0 v1 hs hk
      exfalso; omega
    · intro t u ar w ht v0 v1 v2 hs hk
      exact lrs7 y sec r t u hy0 hy1 hs0 hs1 hr0 hr1 hm0 hm1 (by omega) (by omega) (by omega) (by omega) (by omega)  hs hk.size (fun ar' w' h1 h2 => HQ6 ar' w' t u (by omega) (by omega) (by omega) h1 (hk.trans h2))
    · intro t u ar w ht v0 v1 v2 hs hk
      exact lrs10 y sec r t u hy0 hy1 hs0 hs1 hr0 hr1 hm0 hm1 (by omega) (by omega) (by omega) (by omega) (by omega)  hs hk.size (fun ar' w' h1 h2 => HQ7 ar' w' t u (by omega) (by omega) (by omega) h1 (hk.trans h2))
  | k + 1 => by
    obtain ⟨i3, i4, i5⟩ := lrRounds y sec r hy0 hy1 hs0 hs1 hr0 hr1 hm0 hm1 HQ6 HQ7 k
    refine ⟨?_, ?_, ?_⟩
    · intro t u ar w ht v0 v1 hs hk
      rw [show ((k + 1 : Nat) : Int) = (k : Int) + 1 from by omega] at ht
      by_cases hd : t < 2 + 5 * sec
      · exact lrs3 y sec r t 2 hy0 hy1 hs0 hs1 hr0 hr1 hm0 hm1 (by omega) (by omega) (by omega) (by omega) (by omega) (by omega) (by omega)  hs hk.size (fun ar' w' h1 h2 => i3 (t + 1) 2 ar' w' (by omega) (by omega) (by omega) h1 (hk.trans h2))
      · exact lrs4 y sec r t 2 hy0 hy1 hs0 hs1 hr0 hr1 hm0 hm1 (by omega) (by omega) (by omega) (by omega) (by omega) (by omega) (by omega)  hs hk.size (fun ar' w' h1 h2 => i4 (t + 1) t ar' w' (by omega) (by omega) (by omega) (by omega) h1 (hk.trans h2))
    · intro t u ar w ht v0 v1 v2 hs hk
      rw [show ((k + 1 : Nat) : Int) = (k : Int) + 1 from by omega] at ht
      by_cases hd : t < u + 5 * sec
      · exact lrs5 y sec r t u hy0 hy1 hs0 hs1 hr0 hr1 hm0 hm1 (by omega) (by omega) (by omega) (by omega) (by omega) (by omega) (by omega)  hs hk.size (fun ar' w' h1 h2 => i5 (t + 1) u ar' w' (by omega) (by omega) (by omega) (by omega) h1 (hk.trans h2))
      · exact lrs6 y sec r t u hy0 hy1 hs0 hs1 hr0 hr1 hm0 hm1 (by omega) (by omega) (by omega) (by omega) (by omega) (by omega) (by omega)  hs hk.size (fun ar' w' h1 h2 => i4 (t + 1) t ar' w' (by omega) (by omega) (by omega) (by omega) h1 (hk.trans h2))
    · intro t u ar w ht v0 v1 v2 hs hk
      rw [show ((k + 1 : Nat) : Int) = (k : Int) + 1 from by omega] at ht
      by_cases hd : t < u + 5 * sec
      · exact lrs8 y sec r t u hy0 hy1 hs0 hs1 hr0 hr1 hm0 hm1 (by omega) (by omega) (by omega) (by omega) (by omega) (by omega) (by omega)  hs hk.size (fun ar' w' h1 h2 => i5 (t + 1) u ar' w' (by omega) (by omega) (by omega) (by omega) h1 (hk.trans h2))
      · exact lrs9 y sec r t u hy0 hy1 hs0 hs1 hr0 hr1 hm0 hm1 (by omega) (by omega) (by omega) (by omega) (by omega) (by omega) (by omega)  hs hk.size (fun ar' w' h1 h2 => i4 (t + 1) t ar' w' (by omega) (by omega) (by omega) (by omega) h1 (hk.trans h2))
theorem lrFn_is : Try.prog.funcs[7]? = some (fnAt Try.prog 7) := by kernel_rfl
theorem lrBody_is : (fnAt Try.prog 7).body = some (codeAt Try.prog 7) := by kernel_rfl
theorem lrMain (w : World) (y sec r : Int) (hy0 : 1 ≤ y) (hy1 : y ≤ 4294967295) (hs0 : 14 ≤ sec) (hs1 : sec ≤ 100) (hr0 : 1 ≤ r) (hr1 : r ≤ 6) (hm0 : 10 * sec ≤ (10 * r) * sec) (hm1 : (10 * r) * sec ≤ 6000) : Calls Try.prog 7 #[.int .u32 y, .int .i64 sec, .int .i64 r] w (fun e w' => e = .returned (.bool true) ∧ Only [] w w') := by
  have hlit : (List.replicate ((fnAt Try.prog 7).ntmps - 3) undef) = lrL_S.l.drop 3 := by kernel_rfl
  refine law_of (args' := [.int .u32 y, .int .i64 sec, .int .i64 r]) lrFn_is lrBody_is (E := lrE_S y sec r 3 2) (s := lrL_S) ?_ rfl w fun ar hs => ?_
  · letI : Env := env (lrE_S y sec r 3 2)
    show PW _ lrL_S.l (.int .u32 y :: .int .i64 sec :: .int .i64 r :: List.replicate ((fnAt Try.prog 7).ntmps - 3) undef)
    rw [hlit]
    exact PW.cons (.opq 0 rfl (fun b h => by cases h)) (PW.cons (.opq 1 rfl (fun b h => by cases h)) (PW.cons (.opq 2 rfl (fun b h => by cases h)) (PW.of_flat (by kernel_rfl))))
  · refine lrs0 y sec r 3 2 hy0 hy1 hs0 hs1 hr0 hr1 hm0 hm1 (by omega) (by omega) (by omega) (by omega) (rest := (seqR (seqR (seqR (seqR ((codeAt Try.prog 7))))))) (by kernel_rfl) hs (Nat.le_refl _) fun a1 w1 h1 k1 => ?_
    refine wp_seq' (seqL (seqR (seqR (seqR (seqR ((codeAt Try.prog 7))))))) (seqR (seqR (seqR (seqR (seqR ((codeAt Try.prog 7))))))) (by kernel_rfl) ?_
    refine lrs1 y sec r 3 2 hy0 hy1 hs0 hs1 hr0 hr1 hm0 hm1 (by omega) (by omega) (by omega) (by omega) (rest := (seqR (seqL (seqR (seqR (seqR (seqR ((codeAt Try.prog 7))))))))) (by kernel_rfl) h1 k1.size fun a2 w2 h2 k2 => ?_
    have k2 := k1.trans k2
    refine wp_block' 0 (inB (seqR (seqL (seqR (seqR (seqR (seqR ((codeAt Try.prog 7))))))))) (by kernel_rfl) ?_
    obtain ⟨n, hn⟩ : ∃ n : Nat, (n : Int) = (10 * r) * sec - 4 := ⟨((10 * r) * sec - 4).toNat, by omega⟩
    refine wp_loop' (inB (inB (seqR (seqL (seqR (seqR (seqR (seqR ((codeAt Try.prog 7)))))))))) (by kernel_rfl) (n + 1 + 1) ?_
    refine lrs2 y sec r 3 2 hy0 hy1 hs0 hs1 hr0 hr1 hm0 hm1 (by omega) (by omega) (by omega) (by omega) rfl h2 k2.size fun a3 w3 h3 k3 => ?_
    refine (lrRounds (w0 := w) y sec r hy0 hy1 hs0 hs1 hr0 hr1 hm0 hm1 ?_ ?_ n).1 (3 + 1) 2 a3 w3 (by omega) (by omega) (by omega) h3 (k2.trans k3)
    · intro a4 w4 t u ht hu0 hu1 h4 k4
      simp only [Exit.inBlock, if_true, Exit.then]
      refine lrs11 y sec r t u hy0 hy1 hs0 hs1 hr0 hr1 hm0 hm1 (by omega) (by omega) (by omega) (by omega) h4 k4.size fun a5 w5 h5 k5 => ?_
      exact ⟨rfl, _, _, 6, by kernel_rfl, rfl, h5, k4.trans k5⟩
    · intro a4 w4 t u ht hu0 hu1 h4 k4
      simp only [Exit.inBlock, if_true, Exit.then]
      refine lrs12 y sec r t u hy0 hy1 hs0 hs1 hr0 hr1 hm0 hm1 (by omega) (by omega) (by omega) (by omega) h4 k4.size fun a5 w5 h5 k5 => ?_
      exact ⟨rfl, _, _, 6, by kernel_rfl, rfl, h5, k4.trans k5⟩
theorem lrA (w : World) (y sec r : Int) (hy0 : 0 ≤ y) (hy1 : y ≤ 4294967295) (hn0 : -9223372036854775808 ≤ sec) (hn1 : sec ≤ 9223372036854775807) (hm0 : -9223372036854775808 ≤ r) (hm1 : r ≤ 9223372036854775807) (c0 : y = 0) : Calls Try.prog 7 #[.int .u32 y, .int .i64 sec, .int .i64 r] w (fun e w' => e = .returned (.bool true) ∧ Only [] w w') := by
  letI : Env := env [.int .u32 y, .int .i64 sec, .int .i64 r]
  refine lawS [.int .u32 y, .int .i64 sec, .int .i64 r] [.bin .eql (.chan (some 0)) (.int .u32 0) (.bool true)] (sp := (spKnown 13)) (spKnown_ok knownBody known) ?_ (f := 300) (args := [.chan (some 0), .chan (some 1), .chan (some 2)]) (args' := [.int .u32 y, .int .i64 sec, .int .i64 r]) (by kernel_rfl) ?_ w
  · intro e he
    simp only [List.mem_cons, List.not_mem_nil, or_false] at he
    subst he
    · exact entCmp (k := .u32) (a := y) (b := 0) rfl rfl (by show some ((y : Int) == 0) = some true; rw [beq_iff_eq.2 (by first | omega | (simp only [sumVal, oct.sumF, oct.F, oct.ws]; omega))])
  · exact (PW.cons (.opq 0 rfl (fun b h => by cases h)) (PW.cons (.opq 1 rfl (fun b h => by cases h)) (PW.cons (.opq 2 rfl (fun b h => by cases h)) (PW.nil _))))
theorem lrB (w : World) (y sec r : Int) (hy0 : 0 ≤ y) (hy1 : y ≤ 4294967295) (hn0 : -9223372036854775808 ≤ sec) (hn1 : sec ≤ 9223372036854775807) (hm0 : -9223372036854775808 ≤ r) (hm1 : r ≤ 9223372036854775807) (c0 : ¬ (y = 0)) (c1 : sec < 14) : Calls Try.prog 7 #[.int .u32 y, .int .i64 sec, .int .i64 r] w (fun e w' => e = .returned (.bool true) ∧ Only [] w w') := by
  letI : Env := env [.int .u32 y, .int .i64 sec, .int .i64 r]
  refine lawS [.int .u32 y, .int .i64 sec, .int .i64 r] [.bin .eql (.chan (some 0)) (.int .u32 0) (.bool false), .bin .lss (.chan (some 1)) (.int .i64 14) (.bool true)] (sp := (spKnown 13)) (spKnown_ok knownBody known) ?_ (f := 300) (args := [.chan (some 0), .chan (some 1), .chan (some 2)]) (args' := [.int .u32 y, .int .i64 sec, .int .i64 r]) (by kernel_rfl) ?_ w
  · intro e he
    simp only [List.mem_cons, List.not_mem_nil, or_false] at he
    rcases he with rfl | rfl
    · exact entCmp (k := .u32) (a := y) (b := 0) rfl rfl (by show some ((y : Int) == 0) = some false; rw [beq_eq_false_iff_ne.2 (by first | omega | (simp only [sumVal, oct.sumF, oct.F, oct.ws]; omega))])
    · exact entCmp (k := .i64) (a := sec) (b := 14) rfl rfl (by show some (decide ((sec : Int) < 14)) = some true; rw [decide_eq_true (by first | omega | (simp only [sumVal, oct.sumF, oct.F, oct.ws]; omega))])
  · exact (PW.cons (.opq 0 rfl (fun b h => by cases h)) (PW.cons (.opq 1 rfl (fun b h => by cases h)) (PW.cons (.opq 2 rfl (fun b h => by cases h)) (PW.nil _))))
theorem lrC (w : World) (y sec r : Int) (hy0 : 0 ≤ y) (hy1 : y ≤ 4294967295) (hn0 : -9223372036854775808 ≤ sec) (hn1 : sec ≤ 9223372036854775807) (hm0 : -9223372036854775808 ≤ r) (hm1 : r ≤ 9223372036854775807) (c0 : ¬ (y = 0)) (c1 : ¬ (sec < 14)) (c2 : sec > 100) : Calls Try.prog 7 #[.int .u32 y, .int .i64 sec, .int .i64 r] w (fun e w' => e = .returned (.bool true) ∧ Only [] w w') := by
  letI : Env := env [.int .u32 y, .int .i64 sec, .int .i64 r]
  refine lawS [.int .u32 y, .int .i64 sec, .int .i64 r] [.bin .eql (.chan (some 0)) (.int .u32 0) (.bool false), .bin .lss (.chan (some 1)) (.int .i64 14) (.bool false), .bin .gtr (.chan (some 1)) (.int .i64 100) (.bool true)] (sp := (spKnown 13)) (spKnown_ok knownBody known) ?_ (f := 300) (args := [.chan (some 0), .chan (some 1), .chan (some 2)]) (args' := [.int .u32 y, .int .i64 sec, .int .i64 r]) (by kernel_rfl) ?_ w
  · intro e he
    simp only [List.mem_cons, List.not_mem_nil, or_false] at he
    rcases he with rfl | rfl | rfl
    · exact entCmp (k := .u32) (a := y) (b := 0) rfl rfl (by show some ((y : Int) == 0) = some false; rw [beq_eq_false_iff_ne.2 (by first | omega | (simp only [sumVal, oct.sumF, oct.F, oct.ws]; omega))])
    · exact entCmp (k := .i64) (a := sec) (b := 14) rfl rfl (by show some (decide ((sec : Int) < 14)) = some false; rw [decide_eq_false (by first | omega | (simp only [sumVal, oct.sumF, oct.F, oct.ws]; omega))])
    · exact entCmp (k := .i64) (a := sec) (b := 100) rfl rfl (by show some (decide ((sec : Int) > 100)) = some true; rw [decide_eq_true (by first | omega | (simp only [sumVal, oct.sumF, oct.F, oct.ws]; omega))])
  · exact (PW.cons (.opq 0 rfl (fun b h => by cases h)) (PW.cons (.opq 1 rfl (fun b h => by cases h)) (PW.cons (.opq 2 rfl (fun b h => by cases h)) (PW.nil _))))
theorem lrD (w : World) (y sec r : Int) (hy0 : 0 ≤ y) (hy1 : y ≤ 4294967295) (hn0 : -9223372036854775808 ≤ sec) (hn1 : sec ≤ 9223372036854775807) (hm0 : -9223372036854775808 ≤ r) (hm1 : r ≤ 9223372036854775807) (c0 : ¬ (y = 0)) (c1 : ¬ (sec < 14)) (c2 : ¬ (sec > 100)) (c3 : r < 0) : Calls Try.prog 7 #[.int .u32 y, .int .i64 sec, .int .i64 r] w (fun e w' => e = .returned (.bool true) ∧ Only [] w w') := by
  letI : Env := env [.int .u32 y, .int .i64 sec, .int .i64 r]
  refine lawS [.int .u32 y, .int .i64 sec, .int .i64 r] [.bin .eql (.chan (some 0)) (.int .u32 0) (.bool false), .bin .lss (.chan (some 1)) (.int .i64 14) (.bool false), .bin .gtr (.chan (some 1)) (.int .i64 100) (.bool false), .bin .lss (.chan (some 2)) (.int .i64 0) (.bool true)] (sp := (spKnown 13)) (spKnown_ok knownBody known) ?_ (f := 300) (args := [.chan (some 0), .chan (some 1), .chan (some 2)]) (args' := [.int .u32 y, .int .i64 sec, .int .i64 r]) (by kernel_rfl) ?_ w
  · intro e he
    simp only [List.mem_cons, List.not_mem_nil, or_false] at he
    rcases he with rfl | rfl | rfl | rfl
    · exact entCmp (k := .u32) (a := y) (b := 0) rfl rfl (by show some ((y : Int) == 0) = some false; rw [beq_eq_false_iff_ne.2 (by first | omega | (simp only [sumVal, oct.sumF, oct.F, oct.ws]; omega))])
    · exact entCmp (k := .i64) (a := sec) (b := 14) rfl rfl (by show some (decide ((sec : Int) < 14)) = some false; rw [decide_eq_false (by first | omega | (simp only [sumVal, oct.sumF, oct.F, oct.ws]; omega))])
    · exact entCmp (k := .i64) (a := sec) (b := 100) rfl rfl (by show some (decide ((sec : Int) > 100)) = some false; rw [decide_eq_false (by first | omega | (simp only [sumVal, oct.sumF, oct.F, oct.ws]; omega))])
    · exact entCmp (k := .i64) (a := r) (b := 0) rfl rfl (by show some (decide ((r : Int) < 0)) = some true; rw [decide_eq_true (by first | omega | (simp only [sumVal, oct.sumF, oct.F, oct.ws]; omega))])
  · exact (PW.cons (.opq 0 rfl (fun b h => by cases h)) (PW.cons (.opq 1 rfl (fun b h => by cases h)) (PW.cons (.opq 2 rfl (fun b h => by cases h)) (PW.nil _))))
theorem lrE (w : World) (y sec r : Int) (hy0 : 0 ≤ y) (hy1 : y ≤ 4294967295) (hn0 : -9223372036854775808 ≤ sec) (hn1 : sec ≤ 9223372036854775807) (hm0 : -9223372036854775808 ≤ r) (hm1 : r ≤ 9223372036854775807) (c0 : ¬ (y = 0)) (c1 : ¬ (sec < 14)) (c2 : ¬ (sec > 100)) (c3 : ¬ (r < 0)) (c4 : r > 6) : Calls Try.prog 7 #[.int .u32 y, .int .i64 sec, .int .i64 r] w (fun e w' => e = .returned (.bool true) ∧ Only [] w w') := by
  letI : Env := env [.int .u32 y, .int .i64 sec, .int .i64 r]
  refine lawS [.int .u32 y, .int .i64 sec, .int .i64 r] [.bin .eql (.chan (some 0)) (.int .u32 0) (.bool false), .bin .lss (.chan (some 1)) (.int .i64 14) (.bool false), .bin .gtr (.chan (some 1)) (.int .i64 100) (.bool false), .bin .lss (.chan (some 2)) (.int .i64 0) (.bool false), .bin .gtr (.chan (some 2)) (.int .i64 6) (.bool true)] (sp := (spKnown 13)) (spKnown_ok knownBody known) ?_ (f := 300) (args := [.chan (some 0), .chan (some 1), .chan (some 2)]) (args' := [.int .u32 y, .int .i64 sec, .int .i64 r]) (by kernel_rfl) ?_ w
  · intro e he
    simp only [List.mem_cons, List.not_mem_nil, or_false] at he
    rcases he with rfl | rfl | rfl | rfl | rfl
    · exact entCmp (k := .u32) (a := y) (b := 0) rfl rfl (by show some ((y : Int) == 0) = some false; rw [beq_eq_false_iff_ne.2 (by first | omega | (simp only [sumVal, oct.sumF, oct.F, oct.ws]; omega))])
    · exact entCmp (k := .i64) (a := sec) (b := 14) rfl rfl (by show some (decide ((sec : Int) < 14)) = some false; rw [decide_eq_false (by first | omega | (simp only [sumVal, oct.sumF, oct.F, oct.ws]; omega))])
    · exact entCmp (k := .i64) (a := sec) (b := 100) rfl rfl (by show some (decide ((sec : Int) > 100)) = some false; rw [decide_eq_false (by first | omega | (simp only [sumVal, oct.sumF, oct.F, oct.ws]; omega))])
    · exact entCmp (k := .i64) (a := r) (b := 0) rfl rfl (by show some (decide ((r : Int) < 0)) = some false; rw [decide_eq_false (by first | omega | (simp only [sumVal, oct.sumF, oct.F, oct.ws]; omega))])
    · exact entCmp (k := .i64) (a := r) (b := 6) rfl rfl (by show some (decide ((r : Int) > 6)) = some true; rw [decide_eq_true (by first | omega | (simp only [sumVal, oct.sumF, oct.F, oct.ws]; omega))])
  · exact (PW.cons (.opq 0 rfl (fun b h => by cases h)) (PW.cons (.opq 1 rfl (fun b h => by cases h)) (PW.cons (.opq 2 rfl (fun b h => by cases h)) (PW.nil _))))
theorem lrF (w : World) (y sec : Int) (hy0 : 0 ≤ y) (hy1 : y ≤ 4294967295) (hn0 : -9223372036854775808 ≤ sec) (hn1 : sec ≤ 9223372036854775807) (c0 : ¬ (y = 0)) (c1 : ¬ (sec < 14)) (c2 : ¬ (sec > 100)) : Calls Try.prog 7 #[.int .u32 y, .int .i64 sec, .int .i64 0] w (fun e w' => e = .returned (.bool true) ∧ Only [] w w') := by
  letI : Env := env [.int .u32 y, .int .i64 sec, .int .i64 sec, .int .i64 (10 * sec), .int .i64 (5 * sec), .int .i64 (((-(5 * sec))) + 9223372036854775807), .int .i64 ((5 * sec) + 2), .int .i64 (0 * sec)]
  refine lawS [.int .u32 y, .int .i64 sec, .int .i64 sec, .int .i64 (10 * sec), .int .i64 (5 * sec), .int .i64 (((-(5 * sec))) + 9223372036854775807), .int .i64 ((5 * sec) + 2), .int .i64 (0 * sec)] [.bin .eql (.chan (some 0)) (.int .u32 0) (.bool false), .bin .lss (.chan (some 1)) (.int .i64 14) (.bool false), .bin .gtr (.chan (some 1)) (.int .i64 100) (.bool false), .bin .eql (.chan (some 0)) (.chan (some 0)) (.bool true), .bin .lss (.chan (some 1)) (.int .i64 1) (.bool false), .mm false (.chan (some 1)) (.int .i64 2147483647) (.chan (some 2)), .bin .mul (.int .i64 10) (.chan (some 2)) (.chan (some 3)), .bin .quo (.chan (some 3)) (.int .i64 2) (.chan (some 4)), .bin .sub (.int .i64 9223372036854775807) (.chan (some 4)) (.chan (some 5)), .bin .gtr (.int .i64 2) (.chan (some 5)) (.bool false), .bin .add (.int .i64 2) (.chan (some 4)) (.chan (some 6)), .bin .mul (.int .i64 0) (.chan (some 1)) (.chan (some 7)), .bin .lss (.int .i64 3) (.chan (some 7)) (.bool false)] (sp := (spKnown 13)) (spKnown_ok knownBody known) ?_ (f := 300) (args := [.chan (some 0), .chan (some 1), .int .i64 (.ofNat 0)]) (args' := [.int .u32 y, .int .i64 sec, .int .i64 0]) (by kernel_rfl) ?_ w
  · intro e he
    simp only [List.mem_cons, List.not_mem_nil, or_false] at he
    rcases he with rfl | rfl | rfl | rfl | rfl | rfl | rfl | rfl | rfl | rfl | rfl | rfl | rfl
    · exact entCmp (k := .u32) (a := y) (b := 0) rfl rfl (by show some ((y : Int) == 0) = some false; rw [beq_eq_false_iff_ne.2 (by first | omega | (simp only [sumVal, oct.sumF, oct.F, oct.ws]; omega))])
    · exact entCmp (k := .i64) (a := sec) (b := 14) rfl rfl (by show some (decide ((sec : Int) < 14)) = some false; rw [decide_eq_false (by first | omega | (simp only [sumVal, oct.sumF, oct.F, oct.ws]; omega))])
    · exact entCmp (k := .i64) (a := sec) (b := 100) rfl rfl (by show some (decide ((sec : Int) > 100)) = some false; rw [decide_eq_false (by first | omega | (simp only [sumVal, oct.sumF, oct.F, oct.ws]; omega))])
    · exact entCmp (k := .u32) (a := y) (b := y) rfl rfl (by show some ((y : Int) == y) = some true; rw [beq_iff_eq.2 (by first | omega | (simp only [sumVal, oct.sumF, oct.F, oct.ws]; omega))])
    · exact entCmp (k := .i64) (a := sec) (b := 1) rfl rfl (by show some (decide ((sec : Int) < 1)) = some false; rw [decide_eq_false (by first | omega | (simp only [sumVal, oct.sumF, oct.F, oct.ws]; omega))])
    · exact entMm (k := .i64) (a := sec) (b := 2147483647) (c := sec) rfl rfl rfl (by first | (simp; done) | (simp; omega) | (split <;> omega))
    · exact entArith (k := .i64) (a := 10) (b := sec) (c := (10 * sec)) rfl rfl rfl (by show some (IntKind.i64.wrap (10 * sec)) = some (10 * sec); (rw [IntWalk.i64_in _ (by first | omega | (simp only [sumVal, oct.sumF, oct.F, oct.ws]; omega))]) <;> exact congrArg some (by omega))
    · exact entQuoV (k := .i64) (a := (10 * sec)) (b := 2) (c := (5 * sec)) rfl rfl rfl (by omega) (by rw [Int.tdiv_eq_ediv_of_nonneg (by first | omega | (simp only [sumVal, oct.sumF, oct.F, oct.ws]; omega)), show ((10 * sec) : Int) / 2 = (5 * sec) from by omega]; exact IntWalk.i64_in _ (by first | omega | (simp only [sumVal, oct.sumF, oct.F, oct.ws]; omega)))
    · exact entArith (k := .i64) (a := 9223372036854775807) (b := (5 * sec)) (c := (((-(5 * sec))) + 9223372036854775807)) rfl rfl rfl (by show some (IntKind.i64.wrap (9223372036854775807 - (5 * sec))) = some (((-(5 * sec))) + 9223372036854775807); (rw [IntWalk.i64_in _ (by first | omega | (simp only [sumVal, oct.sumF, oct.F, oct.ws]; omega))]) <;> exact congrArg some (by omega))
    · exact entCmp (k := .i64) (a := 2) (b := (((-(5 * sec))) + 9223372036854775807)) rfl rfl (by show some (decide ((2 : Int) > (((-(5 * sec))) + 9223372036854775807))) = some false; rw [decide_eq_false (by first | omega | (simp only [sumVal, oct.sumF, oct.F, oct.ws]; omega))])
    · exact entArith (k := .i64) (a := 2) (b := (5 * sec)) (c := ((5 * sec) + 2)) rfl rfl rfl (by show some (IntKind.i64.wrap (2 + (5 * sec))) = some ((5 * sec) + 2); (rw [IntWalk.i64_in _ (by first | omega | (simp only [sumVal, oct.sumF, oct.F, oct.ws]; omega))]) <;> exact congrArg some (by omega))
    · exact entArith (k := .i64) (a := 0) (b := sec) (c := (0 * sec)) rfl rfl rfl (by show some (IntKind.i64.wrap ((0 * sec))) = some (0 * sec); rw [IntWalk.i64_in _ (by first | omega | (simp only [sumVal, oct.sumF, oct.F, oct.ws]; omega))])
    · exact entCmp (k := .i64) (a := 3) (b := (0 * sec)) rfl rfl (by show some (decide ((3 : Int) < (0 * sec))) = some false; rw [decide_eq_false (by first | omega | (simp only [sumVal, oct.sumF, oct.F, oct.ws]; omega))])
  · exact (PW.cons (.opq 0 rfl (fun b h => by cases h)) (PW.cons (.opq 1 rfl (fun b h => by cases h)) (PW.cons (VR.of_flat 6 _ rfl) (PW.nil _))))
theorem lrAll (w : World) (y sec r : Int) (hy0 : 0 ≤ y) (hy1 : y ≤ 4294967295) (hn0 : -9223372036854775808 ≤ sec) (hn1 : sec ≤ 9223372036854775807) (hm0 : -9223372036854775808 ≤ r) (hm1 : r ≤ 9223372036854775807) : Calls Try.prog 7 #[.int .u32 y, .int .i64 sec, .int .i64 r] w (fun e w' => e = .returned (.bool true) ∧ Only [] w w') := by
  by_cases c0 : y = 0
  · exact lrA w y sec r hy0 hy1 hn0 hn1 hm0 hm1 c0
  by_cases c1 : sec < 14
  · exact lrB w y sec r hy0 hy1 hn0 hn1 hm0 hm1 c0 c1
  by_cases c2 : sec > 100
  · exact lrC w y sec r hy0 hy1 hn0 hn1 hm0 hm1 c0 c1 c2
  by_cases c3 : r < 0
  · exact lrD w y sec r hy0 hy1 hn0 hn1 hm0 hm1 c0 c1 c2 c3
  by_cases c4 : r > 6
  · exact lrE w y sec r hy0 hy1 hn0 hn1 hm0 hm1 c0 c1 c2 c3 c4
  by_cases h0 : r = 0
  · subst h0
    exact lrF w y sec hy0 hy1 hn0 hn1 c0 c1 c2
  have h6 : r = 1 ∨ r = 2 ∨ r = 3 ∨ r = 4 ∨ r = 5 ∨ r = 6 := by omega
  exact lrMain w y sec r (by omega) hy1 (by omega) (by omega) (by omega) (by omega) (by rcases h6 with rfl | rfl | rfl | rfl | rfl | rfl <;> omega) (by rcases h6 with rfl | rfl | rfl | rfl | rfl | rfl <;> omega)
end Go.Proofs.Ytdpmjghdmpaehaa.ev
