/-
  Every tick to begin at. Conditions: none.
-/
import Derived.Test.YtdfnjcbgakmibaaGreatEvGUC
namespace Go.Proofs.YtdfnjcbgakmibaaGreat.ev
set_option maxRecDepth 1000000
set_option linter.unusedVariables false
set_option linter.unusedSimpArgs false
theorem guRounds {w0 : World} {QL : Exit → Act → World → Prop} (fr : Int) (hf0 : 0 ≤ fr) (hf1 : fr ≤ 1099511527776) (HQ : ∀ ar w t, t = fr + 20000 → Stands w0.heap.size (guE_END fr t) guL_END ar w → Keep w0.heap.size w0 w → QL (.exit 0) ar w) : ∀ (k : Nat),
    (∀ (t : Int) (ar : Act) (w : World), t = fr + 20000 - 5 * (k : Int) → fr + 5 ≤ t → t ≤ fr + 30 → Stands w0.heap.size (guE_G0 fr t) guL_G0 ar w → Keep w0.heap.size w0 w → Code.rounds Tryz.prog (inB (inB (seqR (seqL (seqR (seqR (seqR (seqR (seqR (seqR ((codeAt Tryz.prog 6)))))))))))) QL (k + 1) ar w) ∧
    (∀ (t : Int) (ar : Act) (w : World), t = fr + 20000 - 5 * (k : Int) → fr + 35 ≤ t → t ≤ fr + 35 → Stands w0.heap.size (guE_R1 fr t) guL_R1 ar w → Keep w0.heap.size w0 w → Code.rounds Tryz.prog (inB (inB (seqR (seqL (seqR (seqR (seqR (seqR (seqR (seqR ((codeAt Tryz.prog 6)))))))))))) QL (k + 1) ar w) ∧
    (∀ (t : Int) (ar : Act) (w : World), t = fr + 20000 - 5 * (k : Int) → fr + 40 ≤ t → t ≤ fr + 90 → Stands w0.heap.size (guE_G1 fr t) guL_G1 ar w → Keep w0.heap.size w0 w → Code.rounds Tryz.prog (inB (inB (seqR (seqL (seqR (seqR (seqR (seqR (seqR (seqR ((codeAt Tryz.prog 6)))))))))))) QL (k + 1) ar w) ∧
    (∀ (t : Int) (ar : Act) (w : World), t = fr + 20000 - 5 * (k : Int) → fr + 95 ≤ t → t ≤ fr + 95 → Stands w0.heap.size (guE_R2 fr t) guL_R2 ar w → Keep w0.heap.size w0 w → Code.rounds Tryz.prog (inB (inB (seqR (seqL (seqR (seqR (seqR (seqR (seqR (seqR ((codeAt Tryz.prog 6)))))))))))) QL (k + 1) ar w) ∧
    (∀ (t : Int) (ar : Act) (w : World), t = fr + 20000 - 5 * (k : Int) → fr + 100 ≤ t → t ≤ fr + 210 → Stands w0.heap.size (guE_G2 fr t) guL_G2 ar w → Keep w0.heap.size w0 w → Code.rounds Tryz.prog (inB (inB (seqR (seqL (seqR (seqR (seqR (seqR (seqR (seqR ((codeAt Tryz.prog 6)))))))))))) QL (k + 1) ar w) ∧
    (∀ (t : Int) (ar : Act) (w : World), t = fr + 20000 - 5 * (k : Int) → fr + 215 ≤ t → t ≤ fr + 215 → Stands w0.heap.size (guE_R3 fr t) guL_R3 ar w → Keep w0.heap.size w0 w → Code.rounds Tryz.prog (inB (inB (seqR (seqL (seqR (seqR (seqR (seqR (seqR (seqR ((codeAt Tryz.prog 6)))))))))))) QL (k + 1) ar w) ∧
    (∀ (t : Int) (ar : Act) (w : World), t = fr + 20000 - 5 * (k : Int) → fr + 220 ≤ t → t ≤ fr + 450 → Stands w0.heap.size (guE_G3 fr t) guL_G3 ar w → Keep w0.heap.size w0 w → Code.rounds Tryz.prog (inB (inB (seqR (seqL (seqR (seqR (seqR (seqR (seqR (seqR ((codeAt Tryz.prog 6)))))))))))) QL (k + 1) ar w) ∧
    (∀ (t : Int) (ar : Act) (w : World), t = fr + 20000 - 5 * (k : Int) → fr + 455 ≤ t → t ≤ fr + 455 → Stands w0.heap.size (guE_R4 fr t) guL_R4 ar w → Keep w0.heap.size w0 w → Code.rounds Tryz.prog (inB (inB (seqR (seqL (seqR (seqR (seqR (seqR (seqR (seqR ((codeAt Tryz.prog 6)))))))))))) QL (k + 1) ar w) ∧
    (∀ (t : Int) (ar : Act) (w : World), t = fr + 20000 - 5 * (k : Int) → fr + 460 ≤ t → t ≤ fr + 930 → Stands w0.heap.size (guE_G4 fr t) guL_G4 ar w → Keep w0.heap.size w0 w → Code.rounds Tryz.prog (inB (inB (seqR (seqL (seqR (seqR (seqR (seqR (seqR (seqR ((codeAt Tryz.prog 6)))))))))))) QL (k + 1) ar w) ∧
    (∀ (t : Int) (ar : Act) (w : World), t = fr + 20000 - 5 * (k : Int) → fr + 935 ≤ t → t ≤ fr + 935 → Stands w0.heap.size (guE_R5 fr t) guL_R5 ar w → Keep w0.heap.size w0 w → Code.rounds Tryz.prog (inB (inB (seqR (seqL (seqR (seqR (seqR (seqR (seqR (seqR ((codeAt Tryz.prog 6)))))))))))) QL (k + 1) ar w) ∧
    (∀ (t : Int) (ar : Act) (w : World), t = fr + 20000 - 5 * (k : Int) → fr + 940 ≤ t → t ≤ fr + 1530 → Stands w0.heap.size (guE_G5 fr t) guL_G5 ar w → Keep w0.heap.size w0 w → Code.rounds Tryz.prog (inB (inB (seqR (seqL (seqR (seqR (seqR (seqR (seqR (seqR ((codeAt Tryz.prog 6)))))))))))) QL (k + 1) ar w) ∧
    (∀ (t : Int) (ar : Act) (w : World), t = fr + 20000 - 5 * (k : Int) → fr + 1535 ≤ t → t ≤ fr + 1535 → Stands w0.heap.size (guE_R6 fr t) guL_R6 ar w → Keep w0.heap.size w0 w → Code.rounds Tryz.prog (inB (inB (seqR (seqL (seqR (seqR (seqR (seqR (seqR (seqR ((codeAt Tryz.prog 6)))))))))))) QL (k + 1) ar w) ∧
    (∀ (t : Int) (ar : Act) (w : World), t = fr + 20000 - 5 * (k : Int) → fr + 1540 ≤ t → t ≤ fr + 2130 → Stands w0.heap.size (guE_G6 fr t) guL_G6 ar w → Keep w0.heap.size w0 w → Code.rounds Tryz.prog (inB (inB (seqR (seqL (seqR (seqR (seqR (seqR (seqR (seqR ((codeAt Tryz.prog 6)))))))))))) QL (k + 1) ar w) ∧
    (∀ (t : Int) (ar : Act) (w : World), t = fr + 20000 - 5 * (k : Int) → fr + 2135 ≤ t → t ≤ fr + 2135 → Stands w0.heap.size (guE_R7 fr t) guL_R7 ar w → Keep w0.heap.size w0 w → Code.rounds Tryz.prog (inB (inB (seqR (seqL (seqR (seqR (seqR (seqR (seqR (seqR ((codeAt Tryz.prog 6)))))))))))) QL (k + 1) ar w) ∧
    (∀ (t : Int) (ar : Act) (w : World), t = fr + 20000 - 5 * (k : Int) → fr + 2140 ≤ t → t ≤ fr + 2730 → Stands w0.heap.size (guE_G7 fr t) guL_G7 ar w → Keep w0.heap.size w0 w → Code.rounds Tryz.prog (inB (inB (seqR (seqL (seqR (seqR (seqR (seqR (seqR (seqR ((codeAt Tryz.prog 6)))))))))))) QL (k + 1) ar w) ∧
    (∀ (t : Int) (ar : Act) (w : World), t = fr + 20000 - 5 * (k : Int) → fr + 2735 ≤ t → t ≤ fr + 2735 → Stands w0.heap.size (guE_R8 fr t) guL_R8 ar w → Keep w0.heap.size w0 w → Code.rounds Tryz.prog (inB (inB (seqR (seqL (seqR (seqR (seqR (seqR (seqR (seqR ((codeAt Tryz.prog 6)))))))))))) QL (k + 1) ar w) ∧
    (∀ (t : Int) (ar : Act) (w : World), t = fr + 20000 - 5 * (k : Int) → fr + 2740 ≤ t → t ≤ fr + 3330 → Stands w0.heap.size (guE_G8 fr t) guL_G8 ar w → Keep w0.heap.size w0 w → Code.rounds Tryz.prog (inB (inB (seqR (seqL (seqR (seqR (seqR (seqR (seqR (seqR ((codeAt Tryz.prog 6)))))))))))) QL (k + 1) ar w) ∧
    (∀ (t : Int) (ar : Act) (w : World), t = fr + 20000 - 5 * (k : Int) → fr + 3335 ≤ t → t ≤ fr + 20000 → Stands w0.heap.size (guE_R9 fr t) guL_R9 ar w → Keep w0.heap.size w0 w → Code.rounds Tryz.prog (inB (inB (seqR (seqL (seqR (seqR (seqR (seqR (seqR (seqR ((codeAt Tryz.prog 6)))))))))))) QL (k + 1) ar w)
  | 0 => by
    refine ⟨?_, ?_, ?_, ?_, ?_, ?_, ?_, ?_, ?_, ?_, ?_, ?_, ?_, ?_, ?_, ?_, ?_, ?_⟩
    · intro t ar w ht hlo hhi hs hk
      exfalso; omega
    · intro t ar w ht hlo hhi hs hk
      exfalso; omega
    · intro t ar w ht hlo hhi hs hk
      exfalso; omega
    · intro t ar w ht hlo hhi hs hk
      exfalso; omega
    · intro t ar w ht hlo hhi hs hk
      exfalso; omega
    · intro t ar w ht hlo hhi hs hk
      exfalso; omega
    · intro t ar w ht hlo hhi hs hk
      exfalso; omega
    · intro t ar w ht hlo hhi hs hk
      exfalso; omega
    · intro t ar w ht hlo hhi hs hk
      exfalso; omega
    · intro t ar w ht hlo hhi hs hk
      exfalso; omega
    · intro t ar w ht hlo hhi hs hk
      exfalso; omega
    · intro t ar w ht hlo hhi hs hk
      exfalso; omega
    · intro t ar w ht hlo hhi hs hk
      exfalso; omega
    · intro t ar w ht hlo hhi hs hk
      exfalso; omega
    · intro t ar w ht hlo hhi hs hk
      exfalso; omega
    · intro t ar w ht hlo hhi hs hk
      exfalso; omega
    · intro t ar w ht hlo hhi hs hk
      exfalso; omega
    · intro t ar w ht hlo hhi hs hk
      exact gus30 fr t hf0 hf1 (by omega) (by omega) (by omega) hs hk.size (fun ar' w' h1 h2 => HQ ar' w' t (by omega) h1 (hk.trans h2))
  | k + 1 => by
    obtain ⟨i3, i4, i5, i6, i7, i8, i9, i10, i11, i12, i13, i14, i15, i16, i17, i18, i19, i20⟩ := guRounds fr hf0 hf1 HQ k
    refine ⟨?_, ?_, ?_, ?_, ?_, ?_, ?_, ?_, ?_, ?_, ?_, ?_, ?_, ?_, ?_, ?_, ?_, ?_⟩
    · intro t ar w ht hlo hhi hs hk
      have ht := ht
      rw [show ((k + 1 : Nat) : Int) = (k : Int) + 1 from by omega] at ht
      by_cases hd : fr + 30 ≤ t
      · exact gus4 fr t hf0 hf1 (by omega) (by omega) (by omega) (by omega) (by omega) hs hk.size (fun ar' w' h1 h2 => i4 (t + 5) ar' w' (by omega) (by omega) (by omega) h1 (hk.trans h2))
      · exact gus3 fr t hf0 hf1 (by omega) (by omega) (by omega) (by omega)  hs hk.size (fun ar' w' h1 h2 => i3 (t + 5) ar' w' (by omega) (by omega) (by omega) h1 (hk.trans h2))
    · intro t ar w ht hlo hhi hs hk
      have ht := ht
      rw [show ((k + 1 : Nat) : Int) = (k : Int) + 1 from by omega] at ht
      exact gus5 fr t hf0 hf1 (by omega) (by omega) (by omega) (by omega)  hs hk.size (fun ar' w' h1 h2 => i5 (t + 5) ar' w' (by omega) (by omega) (by omega) h1 (hk.trans h2))
    · intro t ar w ht hlo hhi hs hk
      have ht := ht
      rw [show ((k + 1 : Nat) : Int) = (k : Int) + 1 from by omega] at ht
      by_cases hd : fr + 90 ≤ t
      · exact gus7 fr t hf0 hf1 (by omega) (by omega) (by omega) (by omega) (by omega) hs hk.size (fun ar' w' h1 h2 => i6 (t + 5) ar' w' (by omega) (by omega) (by omega) h1 (hk.trans h2))
      · exact gus6 fr t hf0 hf1 (by omega) (by omega) (by omega) (by omega)  hs hk.size (fun ar' w' h1 h2 => i5 (t + 5) ar' w' (by omega) (by omega) (by omega) h1 (hk.trans h2))
    · intro t ar w ht hlo hhi hs hk
      have ht := ht
      rw [show ((k + 1 : Nat) : Int) = (k : Int) + 1 from by omega] at ht
      exact gus8 fr t hf0 hf1 (by omega) (by omega) (by omega) (by omega)  hs hk.size (fun ar' w' h1 h2 => i7 (t + 5) ar' w' (by omega) (by omega) (by omega) h1 (hk.trans h2))
    · intro t ar w ht hlo hhi hs hk
      have ht := ht
      rw [show ((k + 1 : Nat) : Int) = (k : Int) + 1 from by omega] at ht
      by_cases hd : fr + 210 ≤ t
      · exact gus10 fr t hf0 hf1 (by omega) (by omega) (by omega) (by omega) (by omega) hs hk.size (fun ar' w' h1 h2 => i8 (t + 5) ar' w' (by omega) (by omega) (by omega) h1 (hk.trans h2))
      · exact gus9 fr t hf0 hf1 (by omega) (by omega) (by omega) (by omega)  hs hk.size (fun ar' w' h1 h2 => i7 (t + 5) ar' w' (by omega) (by omega) (by omega) h1 (hk.trans h2))
    · intro t ar w ht hlo hhi hs hk
      have ht := ht
      rw [show ((k + 1 : Nat) : Int) = (k : Int) + 1 from by omega] at ht
      exact gus11 fr t hf0 hf1 (by omega) (by omega) (by omega) (by omega)  hs hk.size (fun ar' w' h1 h2 => i9 (t + 5) ar' w' (by omega) (by omega) (by omega) h1 (hk.trans h2))
    · intro t ar w ht hlo hhi hs hk
      have ht := ht
      rw [show ((k + 1 : Nat) : Int) = (k : Int) + 1 from by omega] at ht
      by_cases hd : fr + 450 ≤ t
      · exact gus13 fr t hf0 hf1 (by omega) (by omega) (by omega) (by omega) (by omega) hs hk.size (fun ar' w' h1 h2 => i10 (t + 5) ar' w' (by omega) (by omega) (by omega) h1 (hk.trans h2))
      · exact gus12 fr t hf0 hf1 (by omega) (by omega) (by omega) (by omega)  hs hk.size (fun ar' w' h1 h2 => i9 (t + 5) ar' w' (by omega) (by omega) (by omega) h1 (hk.trans h2))
    · intro t ar w ht hlo hhi hs hk
      have ht := ht
      rw [show ((k + 1 : Nat) : Int) = (k : Int) + 1 from by omega] at ht
      exact gus14 fr t hf0 hf1 (by omega) (by omega) (by omega) (by omega)  hs hk.size (fun ar' w' h1 h2 => i11 (t + 5) ar' w' (by omega) (by omega) (by omega) h1 (hk.trans h2))
    · intro t ar w ht hlo hhi hs hk
      have ht := ht
      rw [show ((k + 1 : Nat) : Int) = (k : Int) + 1 from by omega] at ht
      by_cases hd : fr + 930 ≤ t
      · exact gus16 fr t hf0 hf1 (by omega) (by omega) (by omega) (by omega) (by omega) hs hk.size (fun ar' w' h1 h2 => i12 (t + 5) ar' w' (by omega) (by omega) (by omega) h1 (hk.trans h2))
      · exact gus15 fr t hf0 hf1 (by omega) (by omega) (by omega) (by omega)  hs hk.size (fun ar' w' h1 h2 => i11 (t + 5) ar' w' (by omega) (by omega) (by omega) h1 (hk.trans h2))
    · intro t ar w ht hlo hhi hs hk
      have ht := ht
      rw [show ((k + 1 : Nat) : Int) = (k : Int) + 1 from by omega] at ht
      exact gus17 fr t hf0 hf1 (by omega) (by omega) (by omega) (by omega)  hs hk.size (fun ar' w' h1 h2 => i13 (t + 5) ar' w' (by omega) (by omega) (by omega) h1 (hk.trans h2))
    · intro t ar w ht hlo hhi hs hk
      have ht := ht
      rw [show ((k + 1 : Nat) : Int) = (k : Int) + 1 from by omega] at ht
      by_cases hd : fr + 1530 ≤ t
      · exact gus19 fr t hf0 hf1 (by omega) (by omega) (by omega) (by omega) (by omega) hs hk.size (fun ar' w' h1 h2 => i14 (t + 5) ar' w' (by omega) (by omega) (by omega) h1 (hk.trans h2))
      · exact gus18 fr t hf0 hf1 (by omega) (by omega) (by omega) (by omega)  hs hk.size (fun ar' w' h1 h2 => i13 (t + 5) ar' w' (by omega) (by omega) (by omega) h1 (hk.trans h2))
    · intro t ar w ht hlo hhi hs hk
      have ht := ht
      rw [show ((k + 1 : Nat) : Int) = (k : Int) + 1 from by omega] at ht
      exact gus20 fr t hf0 hf1 (by omega) (by omega) (by omega) (by omega)  hs hk.size (fun ar' w' h1 h2 => i15 (t + 5) ar' w' (by omega) (by omega) (by omega) h1 (hk.trans h2))
    · intro t ar w ht hlo hhi hs hk
      have ht := ht
      rw [show ((k + 1 : Nat) : Int) = (k : Int) + 1 from by omega] at ht
      by_cases hd : fr + 2130 ≤ t
      · exact gus22 fr t hf0 hf1 (by omega) (by omega) (by omega) (by omega) (by omega) hs hk.size (fun ar' w' h1 h2 => i16 (t + 5) ar' w' (by omega) (by omega) (by omega) h1 (hk.trans h2))
      · exact gus21 fr t hf0 hf1 (by omega) (by omega) (by omega) (by omega)  hs hk.size (fun ar' w' h1 h2 => i15 (t + 5) ar' w' (by omega) (by omega) (by omega) h1 (hk.trans h2))
    · intro t ar w ht hlo hhi hs hk
      have ht := ht
      rw [show ((k + 1 : Nat) : Int) = (k : Int) + 1 from by omega] at ht
      exact gus23 fr t hf0 hf1 (by omega) (by omega) (by omega) (by omega)  hs hk.size (fun ar' w' h1 h2 => i17 (t + 5) ar' w' (by omega) (by omega) (by omega) h1 (hk.trans h2))
    · intro t ar w ht hlo hhi hs hk
      have ht := ht
      rw [show ((k + 1 : Nat) : Int) = (k : Int) + 1 from by omega] at ht
      by_cases hd : fr + 2730 ≤ t
      · exact gus25 fr t hf0 hf1 (by omega) (by omega) (by omega) (by omega) (by omega) hs hk.size (fun ar' w' h1 h2 => i18 (t + 5) ar' w' (by omega) (by omega) (by omega) h1 (hk.trans h2))
      · exact gus24 fr t hf0 hf1 (by omega) (by omega) (by omega) (by omega)  hs hk.size (fun ar' w' h1 h2 => i17 (t + 5) ar' w' (by omega) (by omega) (by omega) h1 (hk.trans h2))
    · intro t ar w ht hlo hhi hs hk
      have ht := ht
      rw [show ((k + 1 : Nat) : Int) = (k : Int) + 1 from by omega] at ht
      exact gus26 fr t hf0 hf1 (by omega) (by omega) (by omega) (by omega)  hs hk.size (fun ar' w' h1 h2 => i19 (t + 5) ar' w' (by omega) (by omega) (by omega) h1 (hk.trans h2))
    · intro t ar w ht hlo hhi hs hk
      have ht := ht
      rw [show ((k + 1 : Nat) : Int) = (k : Int) + 1 from by omega] at ht
      by_cases hd : fr + 3330 ≤ t
      · exact gus28 fr t hf0 hf1 (by omega) (by omega) (by omega) (by omega) (by omega) hs hk.size (fun ar' w' h1 h2 => i20 (t + 5) ar' w' (by omega) (by omega) (by omega) h1 (hk.trans h2))
      · exact gus27 fr t hf0 hf1 (by omega) (by omega) (by omega) (by omega)  hs hk.size (fun ar' w' h1 h2 => i19 (t + 5) ar' w' (by omega) (by omega) (by omega) h1 (hk.trans h2))
    · intro t ar w ht hlo hhi hs hk
      have ht := ht
      rw [show ((k + 1 : Nat) : Int) = (k : Int) + 1 from by omega] at ht
      exact gus29 fr t hf0 hf1 (by omega) (by omega) (by omega)  hs hk.size (fun ar' w' h1 h2 => i20 (t + 5) ar' w' (by omega) (by omega) (by omega) h1 (hk.trans h2))
theorem guFn_is : Tryz.prog.funcs[6]? = some (fnAt Tryz.prog 6) := by kernel_rfl
theorem guBody_is : (fnAt Tryz.prog 6).body = some (codeAt Tryz.prog 6) := by kernel_rfl
theorem guMain (w : World) (fr : Int) (hf0 : 0 ≤ fr) (hf1 : fr ≤ 1099511527776) : Calls Tryz.prog 6 #[.int .i64 fr] w (fun e w' => e = .returned (.bool true) ∧ Only [] w w') := by
  have hlit : (List.replicate ((fnAt Tryz.prog 6).ntmps - 1) undef) = guL_S.l.drop 1 := by kernel_rfl
  refine law_of (args' := [.int .i64 fr]) guFn_is guBody_is (E := guE_S fr fr) (s := guL_S) ?_ rfl w fun ar hs => ?_
  · letI : Env := env (guE_S fr fr)
    show PW _ guL_S.l (.int .i64 fr :: List.replicate ((fnAt Tryz.prog 6).ntmps - 1) undef)
    rw [hlit]
    exact PW.cons (.opq 0 rfl (fun b h => by cases h)) (PW.of_flat (by kernel_rfl))
  · refine gus0 fr fr hf0 hf1 hf0 (by omega) (rest := (seqR (seqR (seqR (seqR (seqR (seqR ((codeAt Tryz.prog 6))))))))) (by kernel_rfl) hs (Nat.le_refl _) fun a1 w1 h1 k1 => ?_
    refine wp_seq' (seqL (seqR (seqR (seqR (seqR (seqR (seqR ((codeAt Tryz.prog 6))))))))) (seqR (seqR (seqR (seqR (seqR (seqR (seqR ((codeAt Tryz.prog 6))))))))) (by kernel_rfl) ?_
    refine gus1 fr fr hf0 hf1 hf0 (by omega) (rest := (seqR (seqL (seqR (seqR (seqR (seqR (seqR (seqR ((codeAt Tryz.prog 6))))))))))) (by kernel_rfl) h1 k1.size fun a2 w2 h2 k2 => ?_
    have k2 := k1.trans k2
    refine wp_block' 0 (inB (seqR (seqL (seqR (seqR (seqR (seqR (seqR (seqR ((codeAt Tryz.prog 6))))))))))) (by kernel_rfl) ?_
    refine wp_loop' (inB (inB (seqR (seqL (seqR (seqR (seqR (seqR (seqR (seqR ((codeAt Tryz.prog 6)))))))))))) (by kernel_rfl) 4001 ?_
    refine gus2 fr fr hf0 hf1 hf0 (by omega) rfl h2 k2.size fun a3 w3 h3 k3 => ?_
    refine (guRounds fr hf0 hf1 ?_ 3999).1 (fr + 5) a3 w3 (by omega) (by omega) (by omega) h3 (k2.trans k3)
    intro a4 w4 t ht h4 k4
    simp only [Exit.inBlock, if_true, Exit.then]
    refine gus31 fr t hf0 hf1 (by omega) (by omega) h4 k4.size fun a5 w5 h5 k5 => ?_
    exact ⟨rfl, _, _, 2, by kernel_rfl, rfl, h5, k4.trans k5⟩
theorem guLo (w : World) (fr : Int) (hn0 : -9223372036854775808 ≤ fr) (hn1 : fr ≤ 9223372036854775807) (c0 : fr < 0) : Calls Tryz.prog 6 #[.int .i64 fr] w (fun e w' => e = .returned (.bool true) ∧ Only [] w w') := by
  letI : Env := env [.int .i64 fr]
  refine lawS [.int .i64 fr] [.bin .lss (.chan (some 0)) (.int .i64 0) (.bool true)] (sp := (spKnown 16)) (spKnown_ok knownBody known) ?_ (f := 300) (args := [.chan (some 0)]) (args' := [.int .i64 fr]) (by kernel_rfl) ?_ w
  · intro e he
    simp only [List.mem_cons, List.not_mem_nil, or_false] at he
    subst he
    · exact entCmp (k := .i64) (a := fr) (b := 0) rfl rfl (by show some (decide ((fr : Int) < 0)) = some true; rw [decide_eq_true (by first | omega | (simp only [sumVal, oct.sumF, oct.F, oct.ws]; omega))])
  · exact (PW.cons (.opq 0 rfl (fun b h => by cases h)) (PW.nil _))
theorem guHi (w : World) (fr : Int) (hn0 : -9223372036854775808 ≤ fr) (hn1 : fr ≤ 9223372036854775807) (c0 : ¬ (fr < 0)) (c1 : fr > 1099511527776) : Calls Tryz.prog 6 #[.int .i64 fr] w (fun e w' => e = .returned (.bool true) ∧ Only [] w w') := by
  letI : Env := env [.int .i64 fr]
  refine lawS [.int .i64 fr] [.bin .lss (.chan (some 0)) (.int .i64 0) (.bool false), .bin .gtr (.chan (some 0)) (.int .i64 1099511527776) (.bool true)] (sp := (spKnown 16)) (spKnown_ok knownBody known) ?_ (f := 300) (args := [.chan (some 0)]) (args' := [.int .i64 fr]) (by kernel_rfl) ?_ w
  · intro e he
    simp only [List.mem_cons, List.not_mem_nil, or_false] at he
    rcases he with rfl | rfl
    · exact entCmp (k := .i64) (a := fr) (b := 0) rfl rfl (by show some (decide ((fr : Int) < 0)) = some false; rw [decide_eq_false (by first | omega | (simp only [sumVal, oct.sumF, oct.F, oct.ws]; omega))])
    · exact entCmp (k := .i64) (a := fr) (b := 1099511527776) rfl rfl (by show some (decide ((fr : Int) > 1099511527776)) = some true; rw [decide_eq_true (by first | omega | (simp only [sumVal, oct.sumF, oct.F, oct.ws]; omega))])
  · exact (PW.cons (.opq 0 rfl (fun b h => by cases h)) (PW.nil _))
theorem guAll (w : World) (fr : Int) (hn0 : -9223372036854775808 ≤ fr) (hn1 : fr ≤ 9223372036854775807) : Calls Tryz.prog 6 #[.int .i64 fr] w (fun e w' => e = .returned (.bool true) ∧ Only [] w w') := by
  by_cases c0 : fr < 0
  · exact guLo w fr hn0 hn1 c0
  by_cases c1 : fr > 1099511527776
  · exact guHi w fr hn0 hn1 c0 c1
  exact guMain w fr (by omega) (by omega)
end Go.Proofs.YtdfnjcbgakmibaaGreat.ev
