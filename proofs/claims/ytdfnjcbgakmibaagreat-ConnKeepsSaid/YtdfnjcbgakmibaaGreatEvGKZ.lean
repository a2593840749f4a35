/-
  Every number of ticks. Conditions: none.
-/
import Derived.Test.YtdfnjcbgakmibaaGreatEvGKC
import Derived.Test.YtdfnjcbgakmibaaGreatEvK7Z
namespace Go.Proofs.YtdfnjcbgakmibaaGreat.ev
set_option maxRecDepth 1000000
set_option linter.unusedVariables false
set_option linter.unusedSimpArgs false
theorem gkRounds {w0 : World} {QL : Exit → Act → World → Prop} (kp : Int) (hf0 : 2 ≤ kp) (hf1 : kp ≤ 1000) (HQ : ∀ ar w t, t = 10 * kp + 1 → Stands w0.heap.size (gkE_END kp t) gkL_END ar w → Keep w0.heap.size w0 w → QL (.exit 0) ar w) : ∀ (k : Nat),
    (∀ (t : Int) (ar : Act) (w : World), t = 10 * kp + 1 - (k : Int) → 0 * kp + 1 ≤ t → t ≤ 1 * kp → Stands w0.heap.size (gkE_G0 kp t) gkL_G0 ar w → Keep w0.heap.size w0 w → Code.rounds Tryz.prog (inB (inB (seqR (seqL (seqR (seqR (seqR (seqR (seqR (seqR (seqR (seqR ((codeAt Tryz.prog 7)))))))))))))) QL (k + 1) ar w) ∧
    (∀ (t : Int) (ar : Act) (w : World), t = 10 * kp + 1 - (k : Int) → 1 * kp + 1 ≤ t → t ≤ 2 * kp → Stands w0.heap.size (gkE_K4 kp t) gkL_K4 ar w → Keep w0.heap.size w0 w → Code.rounds Tryz.prog (inB (inB (seqR (seqL (seqR (seqR (seqR (seqR (seqR (seqR (seqR (seqR ((codeAt Tryz.prog 7)))))))))))))) QL (k + 1) ar w) ∧
    (∀ (t : Int) (ar : Act) (w : World), t = 10 * kp + 1 - (k : Int) → 1 * kp + 1 ≤ t → t ≤ 2 * kp → Stands w0.heap.size (gkE_K5 kp t) gkL_K5 ar w → Keep w0.heap.size w0 w → Code.rounds Tryz.prog (inB (inB (seqR (seqL (seqR (seqR (seqR (seqR (seqR (seqR (seqR (seqR ((codeAt Tryz.prog 7)))))))))))))) QL (k + 1) ar w) ∧
    (∀ (t : Int) (ar : Act) (w : World), t = 10 * kp + 1 - (k : Int) → 2 * kp + 1 ≤ t → t ≤ 3 * kp → Stands w0.heap.size (gkE_K6 kp t) gkL_K6 ar w → Keep w0.heap.size w0 w → Code.rounds Tryz.prog (inB (inB (seqR (seqL (seqR (seqR (seqR (seqR (seqR (seqR (seqR (seqR ((codeAt Tryz.prog 7)))))))))))))) QL (k + 1) ar w) ∧
    (∀ (t : Int) (ar : Act) (w : World), t = 10 * kp + 1 - (k : Int) → 2 * kp + 1 ≤ t → t ≤ 3 * kp → Stands w0.heap.size (gkE_K7 kp t) gkL_K7 ar w → Keep w0.heap.size w0 w → Code.rounds Tryz.prog (inB (inB (seqR (seqL (seqR (seqR (seqR (seqR (seqR (seqR (seqR (seqR ((codeAt Tryz.prog 7)))))))))))))) QL (k + 1) ar w) ∧
    (∀ (t : Int) (ar : Act) (w : World), t = 10 * kp + 1 - (k : Int) → 3 * kp + 1 ≤ t → t ≤ 4 * kp → Stands w0.heap.size (gkE_K8 kp t) gkL_K8 ar w → Keep w0.heap.size w0 w → Code.rounds Tryz.prog (inB (inB (seqR (seqL (seqR (seqR (seqR (seqR (seqR (seqR (seqR (seqR ((codeAt Tryz.prog 7)))))))))))))) QL (k + 1) ar w) ∧
    (∀ (t : Int) (ar : Act) (w : World), t = 10 * kp + 1 - (k : Int) → 3 * kp + 1 ≤ t → t ≤ 4 * kp → Stands w0.heap.size (gkE_K9 kp t) gkL_K9 ar w → Keep w0.heap.size w0 w → Code.rounds Tryz.prog (inB (inB (seqR (seqL (seqR (seqR (seqR (seqR (seqR (seqR (seqR (seqR ((codeAt Tryz.prog 7)))))))))))))) QL (k + 1) ar w) ∧
    (∀ (t : Int) (ar : Act) (w : World), t = 10 * kp + 1 - (k : Int) → 4 * kp + 1 ≤ t → t ≤ 5 * kp → Stands w0.heap.size (gkE_K10 kp t) gkL_K10 ar w → Keep w0.heap.size w0 w → Code.rounds Tryz.prog (inB (inB (seqR (seqL (seqR (seqR (seqR (seqR (seqR (seqR (seqR (seqR ((codeAt Tryz.prog 7)))))))))))))) QL (k + 1) ar w) ∧
    (∀ (t : Int) (ar : Act) (w : World), t = 10 * kp + 1 - (k : Int) → 4 * kp + 1 ≤ t → t ≤ 5 * kp → Stands w0.heap.size (gkE_K11 kp t) gkL_K11 ar w → Keep w0.heap.size w0 w → Code.rounds Tryz.prog (inB (inB (seqR (seqL (seqR (seqR (seqR (seqR (seqR (seqR (seqR (seqR ((codeAt Tryz.prog 7)))))))))))))) QL (k + 1) ar w) ∧
    (∀ (t : Int) (ar : Act) (w : World), t = 10 * kp + 1 - (k : Int) → 5 * kp + 1 ≤ t → t ≤ 6 * kp → Stands w0.heap.size (gkE_K12 kp t) gkL_K12 ar w → Keep w0.heap.size w0 w → Code.rounds Tryz.prog (inB (inB (seqR (seqL (seqR (seqR (seqR (seqR (seqR (seqR (seqR (seqR ((codeAt Tryz.prog 7)))))))))))))) QL (k + 1) ar w) ∧
    (∀ (t : Int) (ar : Act) (w : World), t = 10 * kp + 1 - (k : Int) → 5 * kp + 1 ≤ t → t ≤ 6 * kp → Stands w0.heap.size (gkE_K13 kp t) gkL_K13 ar w → Keep w0.heap.size w0 w → Code.rounds Tryz.prog (inB (inB (seqR (seqL (seqR (seqR (seqR (seqR (seqR (seqR (seqR (seqR ((codeAt Tryz.prog 7)))))))))))))) QL (k + 1) ar w) ∧
    (∀ (t : Int) (ar : Act) (w : World), t = 10 * kp + 1 - (k : Int) → 6 * kp + 1 ≤ t → t ≤ 7 * kp → Stands w0.heap.size (gkE_K14 kp t) gkL_K14 ar w → Keep w0.heap.size w0 w → Code.rounds Tryz.prog (inB (inB (seqR (seqL (seqR (seqR (seqR (seqR (seqR (seqR (seqR (seqR ((codeAt Tryz.prog 7)))))))))))))) QL (k + 1) ar w) ∧
    (∀ (t : Int) (ar : Act) (w : World), t = 10 * kp + 1 - (k : Int) → 6 * kp + 1 ≤ t → t ≤ 7 * kp → Stands w0.heap.size (gkE_K15 kp t) gkL_K15 ar w → Keep w0.heap.size w0 w → Code.rounds Tryz.prog (inB (inB (seqR (seqL (seqR (seqR (seqR (seqR (seqR (seqR (seqR (seqR ((codeAt Tryz.prog 7)))))))))))))) QL (k + 1) ar w) ∧
    (∀ (t : Int) (ar : Act) (w : World), t = 10 * kp + 1 - (k : Int) → 7 * kp + 1 ≤ t → t ≤ 8 * kp → Stands w0.heap.size (gkE_K16 kp t) gkL_K16 ar w → Keep w0.heap.size w0 w → Code.rounds Tryz.prog (inB (inB (seqR (seqL (seqR (seqR (seqR (seqR (seqR (seqR (seqR (seqR ((codeAt Tryz.prog 7)))))))))))))) QL (k + 1) ar w) ∧
    (∀ (t : Int) (ar : Act) (w : World), t = 10 * kp + 1 - (k : Int) → 7 * kp + 1 ≤ t → t ≤ 8 * kp → Stands w0.heap.size (gkE_K17 kp t) gkL_K17 ar w → Keep w0.heap.size w0 w → Code.rounds Tryz.prog (inB (inB (seqR (seqL (seqR (seqR (seqR (seqR (seqR (seqR (seqR (seqR ((codeAt Tryz.prog 7)))))))))))))) QL (k + 1) ar w) ∧
    (∀ (t : Int) (ar : Act) (w : World), t = 10 * kp + 1 - (k : Int) → 8 * kp + 1 ≤ t → t ≤ 9 * kp → Stands w0.heap.size (gkE_K18 kp t) gkL_K18 ar w → Keep w0.heap.size w0 w → Code.rounds Tryz.prog (inB (inB (seqR (seqL (seqR (seqR (seqR (seqR (seqR (seqR (seqR (seqR ((codeAt Tryz.prog 7)))))))))))))) QL (k + 1) ar w) ∧
    (∀ (t : Int) (ar : Act) (w : World), t = 10 * kp + 1 - (k : Int) → 8 * kp + 1 ≤ t → t ≤ 9 * kp → Stands w0.heap.size (gkE_K19 kp t) gkL_K19 ar w → Keep w0.heap.size w0 w → Code.rounds Tryz.prog (inB (inB (seqR (seqL (seqR (seqR (seqR (seqR (seqR (seqR (seqR (seqR ((codeAt Tryz.prog 7)))))))))))))) QL (k + 1) ar w) ∧
    (∀ (t : Int) (ar : Act) (w : World), t = 10 * kp + 1 - (k : Int) → 9 * kp + 1 ≤ t → t ≤ 10 * kp + 1 → Stands w0.heap.size (gkE_K20 kp t) gkL_K20 ar w → Keep w0.heap.size w0 w → Code.rounds Tryz.prog (inB (inB (seqR (seqL (seqR (seqR (seqR (seqR (seqR (seqR (seqR (seqR ((codeAt Tryz.prog 7)))))))))))))) QL (k + 1) ar w)
  | 0 => by
    refine ⟨?_, ?_, ?_, ?_, ?_, ?_, ?_, ?_, ?_, ?_, ?_, ?_, ?_, ?_, ?_, ?_, ?_, ?_⟩
    · intro t ar w ht hlo hhi hs hk
      exfalso; omega
    · intro t ar w ht hlo hhi hs hk
      exfalso; omega
    · intro t ar w ht hlo hhi hs hk
      exfalso; omega
    · intro t ar w ht hlo hhi hs hk
      exfalso; omega
    · intro t ar w ht hlo hhi hs hk
      exfalso; omega
    · intro t ar w ht hlo hhi hs hk
      exfalso; omega
    · intro t ar w ht hlo hhi hs hk
      exfalso; omega
    · intro t ar w ht hlo hhi hs hk
      exfalso; omega
    · intro t ar w ht hlo hhi hs hk
      exfalso; omega
    · intro t ar w ht hlo hhi hs hk
      exfalso; omega
    · intro t ar w ht hlo hhi hs hk
      exfalso; omega
    · intro t ar w ht hlo hhi hs hk
      exfalso; omega
    · intro t ar w ht hlo hhi hs hk
      exfalso; omega
    · intro t ar w ht hlo hhi hs hk
      exfalso; omega
    · intro t ar w ht hlo hhi hs hk
      exfalso; omega
    · intro t ar w ht hlo hhi hs hk
      exfalso; omega
    · intro t ar w ht hlo hhi hs hk
      exfalso; omega
    · intro t ar w ht hlo hhi hs hk
      exact gks38 kp t hf0 hf1 (by omega) (by omega) (by omega) hs hk.size (fun ar' w' h1 h2 => HQ ar' w' t (by omega) h1 (hk.trans h2))
  | k + 1 => by
    obtain ⟨i3, i4, i5, i6, i7, i8, i9, i10, i11, i12, i13, i14, i15, i16, i17, i18, i19, i20⟩ := gkRounds kp hf0 hf1 HQ k
    refine ⟨?_, ?_, ?_, ?_, ?_, ?_, ?_, ?_, ?_, ?_, ?_, ?_, ?_, ?_, ?_, ?_, ?_, ?_⟩
    · intro t ar w ht hlo hhi hs hk
      rw [show ((k + 1 : Nat) : Int) = (k : Int) + 1 from by omega] at ht
      by_cases hd : 1 * kp ≤ t
      · exact gks4 kp t hf0 hf1 (by omega) (by omega) (by omega) (by omega) (by omega) hs hk.size (fun ar' w' h1 h2 => i4 (t + 1) ar' w' (by omega) (by omega) (by omega) h1 (hk.trans h2))
      · exact gks3 kp t hf0 hf1 (by omega) (by omega) (by omega) (by omega)  hs hk.size (fun ar' w' h1 h2 => i3 (t + 1) ar' w' (by omega) (by omega) (by omega) h1 (hk.trans h2))
    · intro t ar w ht hlo hhi hs hk
      rw [show ((k + 1 : Nat) : Int) = (k : Int) + 1 from by omega] at ht
      by_cases hd : 2 * kp ≤ t
      · exact gks6 kp t hf0 hf1 (by omega) (by omega) (by omega) (by omega) (by omega) hs hk.size (fun ar' w' h1 h2 => i6 (t + 1) ar' w' (by omega) (by omega) (by omega) h1 (hk.trans h2))
      · exact gks5 kp t hf0 hf1 (by omega) (by omega) (by omega) (by omega)  hs hk.size (fun ar' w' h1 h2 => i5 (t + 1) ar' w' (by omega) (by omega) (by omega) h1 (hk.trans h2))
    · intro t ar w ht hlo hhi hs hk
      rw [show ((k + 1 : Nat) : Int) = (k : Int) + 1 from by omega] at ht
      by_cases hd : 2 * kp ≤ t
      · exact gks8 kp t hf0 hf1 (by omega) (by omega) (by omega) (by omega) (by omega) hs hk.size (fun ar' w' h1 h2 => i6 (t + 1) ar' w' (by omega) (by omega) (by omega) h1 (hk.trans h2))
      · exact gks7 kp t hf0 hf1 (by omega) (by omega) (by omega) (by omega)  hs hk.size (fun ar' w' h1 h2 => i5 (t + 1) ar' w' (by omega) (by omega) (by omega) h1 (hk.trans h2))
    · intro t ar w ht hlo hhi hs hk
      rw [show ((k + 1 : Nat) : Int) = (k : Int) + 1 from by omega] at ht
      by_cases hd : 3 * kp ≤ t
      · exact gks10 kp t hf0 hf1 (by omega) (by omega) (by omega) (by omega) (by omega) hs hk.size (fun ar' w' h1 h2 => i8 (t + 1) ar' w' (by omega) (by omega) (by omega) h1 (hk.trans h2))
      · exact gks9 kp t hf0 hf1 (by omega) (by omega) (by omega) (by omega)  hs hk.size (fun ar' w' h1 h2 => i7 (t + 1) ar' w' (by omega) (by omega) (by omega) h1 (hk.trans h2))
    · intro t ar w ht hlo hhi hs hk
      rw [show ((k + 1 : Nat) : Int) = (k : Int) + 1 from by omega] at ht
      by_cases hd : 3 * kp ≤ t
      · exact gks12 kp t hf0 hf1 (by omega) (by omega) (by omega) (by omega) (by omega) hs hk.size (fun ar' w' h1 h2 => i8 (t + 1) ar' w' (by omega) (by omega) (by omega) h1 (hk.trans h2))
      · exact gks11 kp t hf0 hf1 (by omega) (by omega) (by omega) (by omega)  hs hk.size (fun ar' w' h1 h2 => i7 (t + 1) ar' w' (by omega) (by omega) (by omega) h1 (hk.trans h2))
    · intro t ar w ht hlo hhi hs hk
      rw [show ((k + 1 : Nat) : Int) = (k : Int) + 1 from by omega] at ht
      by_cases hd : 4 * kp ≤ t
      · exact gks14 kp t hf0 hf1 (by omega) (by omega) (by omega) (by omega) (by omega) hs hk.size (fun ar' w' h1 h2 => i10 (t + 1) ar' w' (by omega) (by omega) (by omega) h1 (hk.trans h2))
      · exact gks13 kp t hf0 hf1 (by omega) (by omega) (by omega) (by omega)  hs hk.size (fun ar' w' h1 h2 => i9 (t + 1) ar' w' (by omega) (by omega) (by omega) h1 (hk.trans h2))
    · intro t ar w ht hlo hhi hs hk
      rw [show ((k + 1 : Nat) : Int) = (k : Int) + 1 from by omega] at ht
      by_cases hd : 4 * kp ≤ t
      · exact gks16 kp t hf0 hf1 (by omega) (by omega) (by omega) (by omega) (by omega) hs hk.size (fun ar' w' h1 h2 => i10 (t + 1) ar' w' (by omega) (by omega) (by omega) h1 (hk.trans h2))
      · exact gks15 kp t hf0 hf1 (by omega) (by omega) (by omega) (by omega)  hs hk.size (fun ar' w' h1 h2 => i9 (t + 1) ar' w' (by omega) (by omega) (by omega) h1 (hk.trans h2))
    · intro t ar w ht hlo hhi hs hk
      rw [show ((k + 1 : Nat) : Int) = (k : Int) + 1 from by omega] at ht
      by_cases hd : 5 * kp ≤ t
      · exact gks18 kp t hf0 hf1 (by omega) (by omega) (by omega) (by omega) (by omega) hs hk.size (fun ar' w' h1 h2 => i12 (t + 1) ar' w' (by omega) (by omega) (by omega) h1 (hk.trans h2))
      · exact gks17 kp t hf0 hf1 (by omega) (by omega) (by omega) (by omega)  hs hk.size (fun ar' w' h1 h2 => i11 (t + 1) ar' w' (by omega) (by omega) (by omega) h1 (hk.trans h2))
    · intro t ar w ht hlo hhi hs hk
      rw [show ((k + 1 : Nat) : Int) = (k : Int) + 1 from by omega] at ht
      by_cases hd : 5 * kp ≤ t
      · exact gks20 kp t hf0 hf1 (by omega) (by omega) (by omega) (by omega) (by omega) hs hk.size (fun ar' w' h1 h2 => i12 (t + 1) ar' w' (by omega) (by omega) (by omega) h1 (hk.trans h2))
      · exact gks19 kp t hf0 hf1 (by omega) (by omega) (by omega) (by omega)  hs hk.size (fun ar' w' h1 h2 => i11 (t + 1) ar' w' (by omega) (by omega) (by omega) h1 (hk.trans h2))
    · intro t ar w ht hlo hhi hs hk
      rw [show ((k + 1 : Nat) : Int) = (k : Int) + 1 from by omega] at ht
      by_cases hd : 6 * kp ≤ t
      · exact gks22 kp t hf0 hf1 (by omega) (by omega) (by omega) (by omega) (by omega) hs hk.size (fun ar' w' h1 h2 => i14 (t + 1) ar' w' (by omega) (by omega) (by omega) h1 (hk.trans h2))
      · exact gks21 kp t hf0 hf1 (by omega) (by omega) (by omega) (by omega)  hs hk.size (fun ar' w' h1 h2 => i13 (t + 1) ar' w' (by omega) (by omega) (by omega) h1 (hk.trans h2))
    · intro t ar w ht hlo hhi hs hk
      rw [show ((k + 1 : Nat) : Int) = (k : Int) + 1 from by omega] at ht
      by_cases hd : 6 * kp ≤ t
      · exact gks24 kp t hf0 hf1 (by omega) (by omega) (by omega) (by omega) (by omega) hs hk.size (fun ar' w' h1 h2 => i14 (t + 1) ar' w' (by omega) (by omega) (by omega) h1 (hk.trans h2))
      · exact gks23 kp t hf0 hf1 (by omega) (by omega) (by omega) (by omega)  hs hk.size (fun ar' w' h1 h2 => i13 (t + 1) ar' w' (by omega) (by omega) (by omega) h1 (hk.trans h2))
    · intro t ar w ht hlo hhi hs hk
      rw [show ((k + 1 : Nat) : Int) = (k : Int) + 1 from by omega] at ht
      by_cases hd : 7 * kp ≤ t
      · exact gks26 kp t hf0 hf1 (by omega) (by omega) (by omega) (by omega) (by omega) hs hk.size (fun ar' w' h1 h2 => i16 (t + 1) ar' w' (by omega) (by omega) (by omega) h1 (hk.trans h2))
      · exact gks25 kp t hf0 hf1 (by omega) (by omega) (by omega) (by omega)  hs hk.size (fun ar' w' h1 h2 => i15 (t + 1) ar' w' (by omega) (by omega) (by omega) h1 (hk.trans h2))
    · intro t ar w ht hlo hhi hs hk
      rw [show ((k + 1 : Nat) : Int) = (k : Int) + 1 from by omega] at ht
      by_cases hd : 7 * kp ≤ t
      · exact gks28 kp t hf0 hf1 (by omega) (by omega) (by omega) (by omega) (by omega) hs hk.size (fun ar' w' h1 h2 => i16 (t + 1) ar' w' (by omega) (by omega) (by omega) h1 (hk.trans h2))
      · exact gks27 kp t hf0 hf1 (by omega) (by omega) (by omega) (by omega)  hs hk.size (fun ar' w' h1 h2 => i15 (t + 1) ar' w' (by omega) (by omega) (by omega) h1 (hk.trans h2))
    · intro t ar w ht hlo hhi hs hk
      rw [show ((k + 1 : Nat) : Int) = (k : Int) + 1 from by omega] at ht
      by_cases hd : 8 * kp ≤ t
      · exact gks30 kp t hf0 hf1 (by omega) (by omega) (by omega) (by omega) (by omega) hs hk.size (fun ar' w' h1 h2 => i18 (t + 1) ar' w' (by omega) (by omega) (by omega) h1 (hk.trans h2))
      · exact gks29 kp t hf0 hf1 (by omega) (by omega) (by omega) (by omega)  hs hk.size (fun ar' w' h1 h2 => i17 (t + 1) ar' w' (by omega) (by omega) (by omega) h1 (hk.trans h2))
    · intro t ar w ht hlo hhi hs hk
      rw [show ((k + 1 : Nat) : Int) = (k : Int) + 1 from by omega] at ht
      by_cases hd : 8 * kp ≤ t
      · exact gks32 kp t hf0 hf1 (by omega) (by omega) (by omega) (by omega) (by omega) hs hk.size (fun ar' w' h1 h2 => i18 (t + 1) ar' w' (by omega) (by omega) (by omega) h1 (hk.trans h2))
      · exact gks31 kp t hf0 hf1 (by omega) (by omega) (by omega) (by omega)  hs hk.size (fun ar' w' h1 h2 => i17 (t + 1) ar' w' (by omega) (by omega) (by omega) h1 (hk.trans h2))
    · intro t ar w ht hlo hhi hs hk
      rw [show ((k + 1 : Nat) : Int) = (k : Int) + 1 from by omega] at ht
      by_cases hd : 9 * kp ≤ t
      · exact gks34 kp t hf0 hf1 (by omega) (by omega) (by omega) (by omega) (by omega) hs hk.size (fun ar' w' h1 h2 => i20 (t + 1) ar' w' (by omega) (by omega) (by omega) h1 (hk.trans h2))
      · exact gks33 kp t hf0 hf1 (by omega) (by omega) (by omega) (by omega)  hs hk.size (fun ar' w' h1 h2 => i19 (t + 1) ar' w' (by omega) (by omega) (by omega) h1 (hk.trans h2))
    · intro t ar w ht hlo hhi hs hk
      rw [show ((k + 1 : Nat) : Int) = (k : Int) + 1 from by omega] at ht
      by_cases hd : 9 * kp ≤ t
      · exact gks36 kp t hf0 hf1 (by omega) (by omega) (by omega) (by omega) (by omega) hs hk.size (fun ar' w' h1 h2 => i20 (t + 1) ar' w' (by omega) (by omega) (by omega) h1 (hk.trans h2))
      · exact gks35 kp t hf0 hf1 (by omega) (by omega) (by omega) (by omega)  hs hk.size (fun ar' w' h1 h2 => i19 (t + 1) ar' w' (by omega) (by omega) (by omega) h1 (hk.trans h2))
    · intro t ar w ht hlo hhi hs hk
      rw [show ((k + 1 : Nat) : Int) = (k : Int) + 1 from by omega] at ht
      exact gks37 kp t hf0 hf1 (by omega) (by omega) (by omega)  hs hk.size (fun ar' w' h1 h2 => i20 (t + 1) ar' w' (by omega) (by omega) (by omega) h1 (hk.trans h2))
theorem gkFn_is : Tryz.prog.funcs[7]? = some (fnAt Tryz.prog 7) := by kernel_rfl
theorem gkBody_is : (fnAt Tryz.prog 7).body = some (codeAt Tryz.prog 7) := by kernel_rfl
theorem gkMain (w : World) (kp : Int) (hf0 : 2 ≤ kp) (hf1 : kp ≤ 1000) : Calls Tryz.prog 7 #[.int .i64 kp] w (fun e w' => e = .returned (.bool true) ∧ Only [] w w') := by
  have hlit : (List.replicate ((fnAt Tryz.prog 7).ntmps - 1) undef) = gkL_S.l.drop 1 := by kernel_rfl
  refine law_of (args' := [.int .i64 kp]) gkFn_is gkBody_is (E := gkE_S kp 1) (s := gkL_S) ?_ rfl w fun ar hs => ?_
  · letI : Env := env (gkE_S kp 1)
    show PW _ gkL_S.l (.int .i64 kp :: List.replicate ((fnAt Tryz.prog 7).ntmps - 1) undef)
    rw [hlit]
    exact PW.cons (.opq 0 rfl (fun b h => by cases h)) (PW.of_flat (by kernel_rfl))
  · refine gks0 kp 1 hf0 hf1 (by omega) (by omega) (rest := (seqR (seqR (seqR (seqR (seqR (seqR (seqR (seqR ((codeAt Tryz.prog 7))))))))))) (by kernel_rfl) hs (Nat.le_refl _) fun a1 w1 h1 k1 => ?_
    refine wp_seq' (seqL (seqR (seqR (seqR (seqR (seqR (seqR (seqR (seqR ((codeAt Tryz.prog 7))))))))))) (seqR (seqR (seqR (seqR (seqR (seqR (seqR (seqR (seqR ((codeAt Tryz.prog 7))))))))))) (by kernel_rfl) ?_
    refine gks1 kp 1 hf0 hf1 (by omega) (by omega) (rest := (seqR (seqL (seqR (seqR (seqR (seqR (seqR (seqR (seqR (seqR ((codeAt Tryz.prog 7))))))))))))) (by kernel_rfl) h1 k1.size fun a2 w2 h2 k2 => ?_
    have k2 := k1.trans k2
    refine wp_block' 0 (inB (seqR (seqL (seqR (seqR (seqR (seqR (seqR (seqR (seqR (seqR ((codeAt Tryz.prog 7))))))))))))) (by kernel_rfl) ?_
    obtain ⟨n, hn⟩ : ∃ n : Nat, (n : Int) = 10 * kp - 1 := ⟨(10 * kp - 1).toNat, by omega⟩
    refine wp_loop' (inB (inB (seqR (seqL (seqR (seqR (seqR (seqR (seqR (seqR (seqR (seqR ((codeAt Tryz.prog 7)))))))))))))) (by kernel_rfl) (n + 1 + 1) ?_
    refine gks2 kp 1 hf0 hf1 (by omega) (by omega) rfl h2 k2.size fun a3 w3 h3 k3 => ?_
    refine (gkRounds kp hf0 hf1 ?_ n).1 (1 + 1) a3 w3 (by omega) (by omega) (by omega) h3 (k2.trans k3)
    intro a4 w4 t ht h4 k4
    simp only [Exit.inBlock, if_true, Exit.then]
    refine gks39 kp t hf0 hf1 (by omega) (by omega)  h4 k4.size fun a5 w5 h5 k5 => ?_
    exact ⟨rfl, _, _, 2, by kernel_rfl, rfl, h5, k4.trans k5⟩
theorem gkLo (w : World) (kp : Int) (hn0 : -9223372036854775808 ≤ kp) (hn1 : kp ≤ 9223372036854775807) (c0 : kp < 0) : Calls Tryz.prog 7 #[.int .i64 kp] w (fun e w' => e = .returned (.bool true) ∧ Only [] w w') := by
  letI : Env := env [.int .i64 kp]
  refine lawS [.int .i64 kp] [.bin .lss (.chan (some 0)) (.int .i64 0) (.bool true)] (sp := (spKnown 16)) (spKnown_ok knownBody known) ?_ (f := 300) (args := [.chan (some 0)]) (args' := [.int .i64 kp]) (by kernel_rfl) ?_ w
  · intro e he
    simp only [List.mem_cons, List.not_mem_nil, or_false] at he
    subst he
    · exact entCmp (k := .i64) (a := kp) (b := 0) rfl rfl (by show some (decide ((kp : Int) < 0)) = some true; rw [decide_eq_true (by first | omega | (simp only [sumVal, oct.sumF, oct.F, oct.ws]; omega))])
  · exact (PW.cons (.opq 0 rfl (fun b h => by cases h)) (PW.nil _))
theorem gkHi (w : World) (kp : Int) (hn0 : -9223372036854775808 ≤ kp) (hn1 : kp ≤ 9223372036854775807) (c0 : ¬ (kp < 0)) (c1 : kp > 1000) : Calls Tryz.prog 7 #[.int .i64 kp] w (fun e w' => e = .returned (.bool true) ∧ Only [] w w') := by
  letI : Env := env [.int .i64 kp]
  refine lawS [.int .i64 kp] [.bin .lss (.chan (some 0)) (.int .i64 0) (.bool false), .bin .gtr (.chan (some 0)) (.int .i64 1000) (.bool true)] (sp := (spKnown 16)) (spKnown_ok knownBody known) ?_ (f := 300) (args := [.chan (some 0)]) (args' := [.int .i64 kp]) (by kernel_rfl) ?_ w
  · intro e he
    simp only [List.mem_cons, List.not_mem_nil, or_false] at he
    rcases he with rfl | rfl
    · exact entCmp (k := .i64) (a := kp) (b := 0) rfl rfl (by show some (decide ((kp : Int) < 0)) = some false; rw [decide_eq_false (by first | omega | (simp only [sumVal, oct.sumF, oct.F, oct.ws]; omega))])
    · exact entCmp (k := .i64) (a := kp) (b := 1000) rfl rfl (by show some (decide ((kp : Int) > 1000)) = some true; rw [decide_eq_true (by first | omega | (simp only [sumVal, oct.sumF, oct.F, oct.ws]; omega))])
  · exact (PW.cons (.opq 0 rfl (fun b h => by cases h)) (PW.nil _))
theorem gkAll (w : World) (kp : Int) (hn0 : -9223372036854775808 ≤ kp) (hn1 : kp ≤ 9223372036854775807) : Calls Tryz.prog 7 #[.int .i64 kp] w (fun e w' => e = .returned (.bool true) ∧ Only [] w w') := by
  by_cases c0 : kp < 0
  · exact gkLo w kp hn0 hn1 c0
  by_cases c1 : kp > 1000
  · exact gkHi w kp hn0 hn1 c0 c1
  have h : kp = 0 ∨ kp = 1 ∨ 2 ≤ kp := by omega
  rcases h with rfl | rfl | h
  · exact keeps0 w
  · exact keeps1 w
  · exact gkMain w kp h (by omega)
end Go.Proofs.YtdfnjcbgakmibaaGreat.ev
