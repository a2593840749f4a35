/-
  Every lease. Conditions: none.
-/
import Derived.Test.YtdpmjghdmpaehaaEvLOC
import Derived.Test.YtdpmjghdmpaehaaEvLOD
namespace Go.Proofs.Ytdpmjghdmpaehaa.ev
set_option maxRecDepth 1000000
set_option linter.unusedVariables false
set_option linter.unusedSimpArgs false
theorem loRounds {w0 : World} {QL : Exit → Act → World → Prop} (y sec bt : Int) (hy0 : 1 ≤ y) (hy1 : y ≤ 4294967295) (hs0 : 1 ≤ sec) (hs1 : sec ≤ 400) (hb0 : 0 ≤ bt) (hb1 : bt ≤ 1000000) (HQ12 : ∀ ar w t d a, t = bt + 10 * sec + 4 → 1 ≤ a → a ≤ t → 0 ≤ d → d ≤ 1005000 → Stands w0.heap.size (loE_K12 y sec bt t d a) loL_K12 ar w → Keep w0.heap.size w0 w → QL (.exit 0) ar w) (HQ14 : ∀ ar w t d a, t = bt + 10 * sec + 4 → 1 ≤ a → a ≤ t → 0 ≤ d → d ≤ 1005000 → Stands w0.heap.size (loE_K14 y sec bt t d a) loL_K14 ar w → Keep w0.heap.size w0 w → QL (.exit 0) ar w) : ∀ (k : Nat),
    (∀ (t d a : Int) (ar : Act) (w : World), t = bt + 10 * sec + 4 - (k : Int) → bt + 4 ≤ t → t ≤ bt + 3 + 5 * sec → Stands w0.heap.size (loE_G0 y sec bt t d a) loL_G0 ar w → Keep w0.heap.size w0 w → Code.rounds Try.prog (inB (inB (seqR (seqL (seqR (seqR (seqR (seqR (seqR (seqR (seqR (seqR (seqR (seqR (seqR (seqR ((codeAt Try.prog 5)))))))))))))))))) QL (k + 1) ar w) ∧
    (∀ (t d a : Int) (ar : Act) (w : World), t = bt + 10 * sec + 4 - (k : Int) → bt + 4 + 5 * sec ≤ t → t ≤ bt + 3 + 10 * sec → t ≤ d → d ≤ t + 60 → 1 ≤ a → a ≤ t → Stands w0.heap.size (loE_R0 y sec bt t d a) loL_R0 ar w → Keep w0.heap.size w0 w → Code.rounds Try.prog (inB (inB (seqR (seqL (seqR (seqR (seqR (seqR (seqR (seqR (seqR (seqR (seqR (seqR (seqR (seqR ((codeAt Try.prog 5)))))))))))))))))) QL (k + 1) ar w) ∧
    (∀ (t d a : Int) (ar : Act) (w : World), t = bt + 10 * sec + 4 - (k : Int) → bt + 4 + 5 * sec ≤ t → t ≤ bt + 3 + 10 * sec → t ≤ d → d ≤ t + 60 → 1 ≤ a → a ≤ t → Stands w0.heap.size (loE_K5 y sec bt t d a) loL_K5 ar w → Keep w0.heap.size w0 w → Code.rounds Try.prog (inB (inB (seqR (seqL (seqR (seqR (seqR (seqR (seqR (seqR (seqR (seqR (seqR (seqR (seqR (seqR ((codeAt Try.prog 5)))))))))))))))))) QL (k + 1) ar w) ∧
    (∀ (t d a : Int) (ar : Act) (w : World), t = bt + 10 * sec + 4 - (k : Int) → bt + 4 + 5 * sec ≤ t → t ≤ bt + 3 + 10 * sec → t ≤ d → d ≤ t + 60 → 1 ≤ a → a ≤ t → Stands w0.heap.size (loE_K6 y sec bt t d a) loL_K6 ar w → Keep w0.heap.size w0 w → Code.rounds Try.prog (inB (inB (seqR (seqL (seqR (seqR (seqR (seqR (seqR (seqR (seqR (seqR (seqR (seqR (seqR (seqR ((codeAt Try.prog 5)))))))))))))))))) QL (k + 1) ar w) ∧
    (∀ (t d a : Int) (ar : Act) (w : World), t = bt + 10 * sec + 4 - (k : Int) → bt + 4 + 5 * sec ≤ t → t ≤ bt + 3 + 10 * sec → t ≤ d → d ≤ t + 60 → 1 ≤ a → a ≤ t → (70 * sec) / 8 + bt + 3 ≤ t → Stands w0.heap.size (loE_K7 y sec bt t d a) loL_K7 ar w → Keep w0.heap.size w0 w → Code.rounds Try.prog (inB (inB (seqR (seqL (seqR (seqR (seqR (seqR (seqR (seqR (seqR (seqR (seqR (seqR (seqR (seqR ((codeAt Try.prog 5)))))))))))))))))) QL (k + 1) ar w) ∧
    (∀ (t d a : Int) (ar : Act) (w : World), t = bt + 10 * sec + 4 - (k : Int) → bt + 4 + 5 * sec ≤ t → t ≤ bt + 3 + 10 * sec → t ≤ d → d ≤ t + 60 → 1 ≤ a → a ≤ t → Stands w0.heap.size (loE_K9 y sec bt t d a) loL_K9 ar w → Keep w0.heap.size w0 w → Code.rounds Try.prog (inB (inB (seqR (seqL (seqR (seqR (seqR (seqR (seqR (seqR (seqR (seqR (seqR (seqR (seqR (seqR ((codeAt Try.prog 5)))))))))))))))))) QL (k + 1) ar w) ∧
    (∀ (t d a : Int) (ar : Act) (w : World), t = bt + 10 * sec + 4 - (k : Int) → bt + 4 + 5 * sec ≤ t → t ≤ bt + 3 + 10 * sec → t ≤ d → d ≤ t + 60 → 1 ≤ a → a ≤ t → (70 * sec) / 8 + bt + 3 ≤ t → Stands w0.heap.size (loE_K11 y sec bt t d a) loL_K11 ar w → Keep w0.heap.size w0 w → Code.rounds Try.prog (inB (inB (seqR (seqL (seqR (seqR (seqR (seqR (seqR (seqR (seqR (seqR (seqR (seqR (seqR (seqR ((codeAt Try.prog 5)))))))))))))))))) QL (k + 1) ar w) ∧
    (∀ (t d a : Int) (ar : Act) (w : World), t = bt + 10 * sec + 4 - (k : Int) → t = bt + 10 * sec + 4 → 1 ≤ a → a ≤ t → 0 ≤ d → d ≤ 1005000 → Stands w0.heap.size (loE_K8 y sec bt t d a) loL_K8 ar w → Keep w0.heap.size w0 w → Code.rounds Try.prog (inB (inB (seqR (seqL (seqR (seqR (seqR (seqR (seqR (seqR (seqR (seqR (seqR (seqR (seqR (seqR ((codeAt Try.prog 5)))))))))))))))))) QL (k + 1) ar w) ∧
    (∀ (t d a : Int) (ar : Act) (w : World), t = bt + 10 * sec + 4 - (k : Int) → t = bt + 10 * sec + 4 → 1 ≤ a → a ≤ t → 0 ≤ d → d ≤ 1005000 → Stands w0.heap.size (loE_K10 y sec bt t d a) loL_K10 ar w → Keep w0.heap.size w0 w → Code.rounds Try.prog (inB (inB (seqR (seqL (seqR (seqR (seqR (seqR (seqR (seqR (seqR (seqR (seqR (seqR (seqR (seqR ((codeAt Try.prog 5)))))))))))))))))) QL (k + 1) ar w)
  | 0 => by
    refine ⟨?_, ?_, ?_, ?_, ?_, ?_, ?_, ?_, ?_⟩
    · intro t d a ar w ht v0 v1 hs hk
      exfalso; omega
    · intro t d a ar w ht v0 v1 v2 v3 v4 v5 hs hk
      exfalso; omega
    · intro t d a ar w ht v0 v1 v2 v3 v4 v5 hs hk
      exfalso; omega
    · intro t d a ar w ht v0 v1 v2 v3 v4 v5 hs hk
      exfalso; omega
    · intro t d a ar w ht v0 v1 v2 v3 v4 v5 v6 hs hk
      exfalso; omega
    · intro t d a ar w ht v0 v1 v2 v3 v4 v5 hs hk
      exfalso; omega
    · intro t d a ar w ht v0 v1 v2 v3 v4 v5 v6 hs hk
      exfalso; omega
    · intro t d a ar w ht v0 v1 v2 v3 v4 hs hk
      exact los27 y sec bt t d a hy0 hy1 hs0 hs1 hb0 hb1 (by omega) (by omega) (by omega) (by omega) (by omega) (by omega) (by omega)  hs hk.size (fun ar' w' h1 h2 => HQ12 ar' w' t d a (by omega) (by omega) (by omega) (by omega) (by omega) h1 (hk.trans h2))
    · intro t d a ar w ht v0 v1 v2 v3 v4 hs hk
      exact los29 y sec bt t d a hy0 hy1 hs0 hs1 hb0 hb1 (by omega) (by omega) (by omega) (by omega) (by omega) (by omega) (by omega)  hs hk.size (fun ar' w' h1 h2 => HQ14 ar' w' t d a (by omega) (by omega) (by omega) (by omega) (by omega) h1 (hk.trans h2))
  | k + 1 => by
    obtain ⟨i3, i4, i5, i6, i7, i9, i11, i8, i10⟩ := loRounds y sec bt hy0 hy1 hs0 hs1 hb0 hb1 HQ12 HQ14 k
    refine ⟨?_, ?_, ?_, ?_, ?_, ?_, ?_, ?_, ?_⟩
    · intro t d a ar w ht v0 v1 hs hk
      rw [show ((k + 1 : Nat) : Int) = (k : Int) + 1 from by omega] at ht
      by_cases hd : t < bt + 3 + 5 * sec
      · exact los3 y sec bt t 0 1 hy0 hy1 hs0 hs1 hb0 hb1 (by omega) (by omega) (by omega) (by omega) (by omega) (by omega) (by omega) (by omega) (by omega)  hs hk.size (fun ar' w' h1 h2 => i3 (t + 1) 0 1 ar' w' (by omega) (by omega) (by omega) h1 (hk.trans h2))
      · exact los4 y sec bt t 0 1 hy0 hy1 hs0 hs1 hb0 hb1 (by omega) (by omega) (by omega) (by omega) (by omega) (by omega) (by omega) (by omega) (by omega) (by omega)  hs hk.size (fun ar' w' h1 h2 => i4 (t + 1) (t + 60) 1 ar' w' (by omega) (by omega) (by omega) (by omega) (by omega) (by omega) (by omega) h1 (hk.trans h2))
    · intro t d a ar w ht v0 v1 v2 v3 v4 v5 hs hk
      rw [show ((k + 1 : Nat) : Int) = (k : Int) + 1 from by omega] at ht
      by_cases he : t = bt + 3 + 10 * sec
      · exact los8 y sec bt t d a hy0 hy1 hs0 hs1 hb0 hb1 (by omega) (by omega) (by omega) (by omega) (by omega) (by omega) (by omega) (by omega)  hs hk.size (fun ar' w' h1 h2 => i8 (t + 1) d a ar' w' (by omega) (by omega) (by omega) (by omega) (by omega) (by omega) h1 (hk.trans h2))
      by_cases hd : t < d
      · exact los5 y sec bt t d a hy0 hy1 hs0 hs1 hb0 hb1 (by omega) (by omega) (by omega) (by omega) (by omega) (by omega) (by omega) (by omega) (by omega)  hs hk.size (fun ar' w' h1 h2 => i5 (t + 1) d a ar' w' (by omega) (by omega) (by omega) (by omega) (by omega) (by omega) (by omega) h1 (hk.trans h2))
      by_cases hb : (70 * sec) / 8 + bt + 3 ≤ t
      · exact los7 y sec bt t d a hy0 hy1 hs0 hs1 hb0 hb1 (by omega) (by omega) (by omega) (by omega) (by omega) (by omega) (by omega) (by omega) (by omega) (by omega) (by omega)  hs hk.size (fun ar' w' h1 h2 => i7 (t + 1) (t + 60) (a + 1) ar' w' (by omega) (by omega) (by omega) (by omega) (by omega) (by omega) (by omega) (by omega) h1 (hk.trans h2))
      · exact los6 y sec bt t d a hy0 hy1 hs0 hs1 hb0 hb1 (by omega) (by omega) (by omega) (by omega) (by omega) (by omega) (by omega) (by omega) (by omega) (by omega) (by omega)  hs hk.size (fun ar' w' h1 h2 => i6 (t + 1) (t + 60) (a + 1) ar' w' (by omega) (by omega) (by omega) (by omega) (by omega) (by omega) (by omega) h1 (hk.trans h2))
    · intro t d a ar w ht v0 v1 v2 v3 v4 v5 hs hk
      rw [show ((k + 1 : Nat) : Int) = (k : Int) + 1 from by omega] at ht
      by_cases he : t = bt + 3 + 10 * sec
      · exact los12 y sec bt t d a hy0 hy1 hs0 hs1 hb0 hb1 (by omega) (by omega) (by omega) (by omega) (by omega) (by omega) (by omega) (by omega)  hs hk.size (fun ar' w' h1 h2 => i8 (t + 1) d a ar' w' (by omega) (by omega) (by omega) (by omega) (by omega) (by omega) h1 (hk.trans h2))
      by_cases hd : t < d
      · exact los9 y sec bt t d a hy0 hy1 hs0 hs1 hb0 hb1 (by omega) (by omega) (by omega) (by omega) (by omega) (by omega) (by omega) (by omega) (by omega)  hs hk.size (fun ar' w' h1 h2 => i5 (t + 1) d a ar' w' (by omega) (by omega) (by omega) (by omega) (by omega) (by omega) (by omega) h1 (hk.trans h2))
      by_cases hb : (70 * sec) / 8 + bt + 3 ≤ t
      · exact los11 y sec bt t d a hy0 hy1 hs0 hs1 hb0 hb1 (by omega) (by omega) (by omega) (by omega) (by omega) (by omega) (by omega) (by omega) (by omega) (by omega) (by omega)  hs hk.size (fun ar' w' h1 h2 => i7 (t + 1) (t + 60) (a + 1) ar' w' (by omega) (by omega) (by omega) (by omega) (by omega) (by omega) (by omega) (by omega) h1 (hk.trans h2))
      · exact los10 y sec bt t d a hy0 hy1 hs0 hs1 hb0 hb1 (by omega) (by omega) (by omega) (by omega) (by omega) (by omega) (by omega) (by omega) (by omega) (by omega) (by omega)  hs hk.size (fun ar' w' h1 h2 => i6 (t + 1) (t + 60) (a + 1) ar' w' (by omega) (by omega) (by omega) (by omega) (by omega) (by omega) (by omega) h1 (hk.trans h2))
    · intro t d a ar w ht v0 v1 v2 v3 v4 v5 hs hk
      rw [show ((k + 1 : Nat) : Int) = (k : Int) + 1 from by omega] at ht
      by_cases he : t = bt + 3 + 10 * sec
      · exact los16 y sec bt t d a hy0 hy1 hs0 hs1 hb0 hb1 (by omega) (by omega) (by omega) (by omega) (by omega) (by omega) (by omega) (by omega)  hs hk.size (fun ar' w' h1 h2 => i10 (t + 1) d a ar' w' (by omega) (by omega) (by omega) (by omega) (by omega) (by omega) h1 (hk.trans h2))
      by_cases hd : t < d
      · exact los13 y sec bt t d a hy0 hy1 hs0 hs1 hb0 hb1 (by omega) (by omega) (by omega) (by omega) (by omega) (by omega) (by omega) (by omega) (by omega)  hs hk.size (fun ar' w' h1 h2 => i9 (t + 1) d a ar' w' (by omega) (by omega) (by omega) (by omega) (by omega) (by omega) (by omega) h1 (hk.trans h2))
      by_cases hb : (70 * sec) / 8 + bt + 3 ≤ t
      · exact los15 y sec bt t d a hy0 hy1 hs0 hs1 hb0 hb1 (by omega) (by omega) (by omega) (by omega) (by omega) (by omega) (by omega) (by omega) (by omega) (by omega) (by omega)  hs hk.size (fun ar' w' h1 h2 => i7 (t + 1) (t + 60) (a + 1) ar' w' (by omega) (by omega) (by omega) (by omega) (by omega) (by omega) (by omega) (by omega) h1 (hk.trans h2))
      · exact los14 y sec bt t d a hy0 hy1 hs0 hs1 hb0 hb1 (by omega) (by omega) (by omega) (by omega) (by omega) (by omega) (by omega) (by omega) (by omega) (by omega) (by omega)  hs hk.size (fun ar' w' h1 h2 => i6 (t + 1) (t + 60) (a + 1) ar' w' (by omega) (by omega) (by omega) (by omega) (by omega) (by omega) (by omega) h1 (hk.trans h2))
    · intro t d a ar w ht v0 v1 v2 v3 v4 v5 v6 hs hk
      rw [show ((k + 1 : Nat) : Int) = (k : Int) + 1 from by omega] at ht
      by_cases he : t = bt + 3 + 10 * sec
      · exact los19 y sec bt t d a hy0 hy1 hs0 hs1 hb0 hb1 (by omega) (by omega) (by omega) (by omega) (by omega) (by omega) (by omega) (by omega)  hs hk.size (fun ar' w' h1 h2 => i10 (t + 1) d a ar' w' (by omega) (by omega) (by omega) (by omega) (by omega) (by omega) h1 (hk.trans h2))
      by_cases hd : t < d
      · exact los17 y sec bt t d a hy0 hy1 hs0 hs1 hb0 hb1 (by omega) (by omega) (by omega) (by omega) (by omega) (by omega) (by omega) (by omega) (by omega)  hs hk.size (fun ar' w' h1 h2 => i11 (t + 1) d a ar' w' (by omega) (by omega) (by omega) (by omega) (by omega) (by omega) (by omega) (by omega) h1 (hk.trans h2))
      exact los18 y sec bt t d a hy0 hy1 hs0 hs1 hb0 hb1 (by omega) (by omega) (by omega) (by omega) (by omega) (by omega) (by omega) (by omega) (by omega) (by omega) (by omega)  hs hk.size (fun ar' w' h1 h2 => i7 (t + 1) (t + 60) (a + 1) ar' w' (by omega) (by omega) (by omega) (by omega) (by omega) (by omega) (by omega) (by omega) h1 (hk.trans h2))
    · intro t d a ar w ht v0 v1 v2 v3 v4 v5 hs hk
      rw [show ((k + 1 : Nat) : Int) = (k : Int) + 1 from by omega] at ht
      by_cases he : t = bt + 3 + 10 * sec
      · exact los23 y sec bt t d a hy0 hy1 hs0 hs1 hb0 hb1 (by omega) (by omega) (by omega) (by omega) (by omega) (by omega) (by omega) (by omega)  hs hk.size (fun ar' w' h1 h2 => i10 (t + 1) d a ar' w' (by omega) (by omega) (by omega) (by omega) (by omega) (by omega) h1 (hk.trans h2))
      by_cases hd : t < d
      · exact los20 y sec bt t d a hy0 hy1 hs0 hs1 hb0 hb1 (by omega) (by omega) (by omega) (by omega) (by omega) (by omega) (by omega) (by omega) (by omega)  hs hk.size (fun ar' w' h1 h2 => i9 (t + 1) d a ar' w' (by omega) (by omega) (by omega) (by omega) (by omega) (by omega) (by omega) h1 (hk.trans h2))
      by_cases hb : (70 * sec) / 8 + bt + 3 ≤ t
      · exact los22 y sec bt t d a hy0 hy1 hs0 hs1 hb0 hb1 (by omega) (by omega) (by omega) (by omega) (by omega) (by omega) (by omega) (by omega) (by omega) (by omega) (by omega)  hs hk.size (fun ar' w' h1 h2 => i7 (t + 1) (t + 60) (a + 1) ar' w' (by omega) (by omega) (by omega) (by omega) (by omega) (by omega) (by omega) (by omega) h1 (hk.trans h2))
      · exact los21 y sec bt t d a hy0 hy1 hs0 hs1 hb0 hb1 (by omega) (by omega) (by omega) (by omega) (by omega) (by omega) (by omega) (by omega) (by omega) (by omega) (by omega)  hs hk.size (fun ar' w' h1 h2 => i6 (t + 1) (t + 60) (a + 1) ar' w' (by omega) (by omega) (by omega) (by omega) (by omega) (by omega) (by omega) h1 (hk.trans h2))
    · intro t d a ar w ht v0 v1 v2 v3 v4 v5 v6 hs hk
      rw [show ((k + 1 : Nat) : Int) = (k : Int) + 1 from by omega] at ht
      by_cases he : t = bt + 3 + 10 * sec
      · exact los26 y sec bt t d a hy0 hy1 hs0 hs1 hb0 hb1 (by omega) (by omega) (by omega) (by omega) (by omega) (by omega) (by omega) (by omega)  hs hk.size (fun ar' w' h1 h2 => i10 (t + 1) d a ar' w' (by omega) (by omega) (by omega) (by omega) (by omega) (by omega) h1 (hk.trans h2))
      by_cases hd : t < d
      · exact los24 y sec bt t d a hy0 hy1 hs0 hs1 hb0 hb1 (by omega) (by omega) (by omega) (by omega) (by omega) (by omega) (by omega) (by omega) (by omega)  hs hk.size (fun ar' w' h1 h2 => i11 (t + 1) d a ar' w' (by omega) (by omega) (by omega) (by omega) (by omega) (by omega) (by omega) (by omega) h1 (hk.trans h2))
      exact los25 y sec bt t d a hy0 hy1 hs0 hs1 hb0 hb1 (by omega) (by omega) (by omega) (by omega) (by omega) (by omega) (by omega) (by omega) (by omega) (by omega) (by omega)  hs hk.size (fun ar' w' h1 h2 => i7 (t + 1) (t + 60) (a + 1) ar' w' (by omega) (by omega) (by omega) (by omega) (by omega) (by omega) (by omega) (by omega) h1 (hk.trans h2))
    · intro t d a ar w ht v0 v1 v2 v3 v4 hs hk
      rw [show ((k + 1 : Nat) : Int) = (k : Int) + 1 from by omega] at ht
      exfalso; omega
    · intro t d a ar w ht v0 v1 v2 v3 v4 hs hk
      rw [show ((k + 1 : Nat) : Int) = (k : Int) + 1 from by omega] at ht
      exfalso; omega
theorem loFn_is : Try.prog.funcs[5]? = some (fnAt Try.prog 5) := by kernel_rfl
theorem loBody_is : (fnAt Try.prog 5).body = some (codeAt Try.prog 5) := by kernel_rfl
theorem loMain (w : World) (y sec bt : Int) (hy0 : 1 ≤ y) (hy1 : y ≤ 4294967295) (hs0 : 1 ≤ sec) (hs1 : sec ≤ 400) (hb0 : 0 ≤ bt) (hb1 : bt ≤ 1000000) : Calls Try.prog 5 #[.int .u32 y, .int .i64 sec, .int .i64 bt] w (fun e w' => e = .returned (.bool true) ∧ Only [] w w') := by
  have hlit : (List.replicate ((fnAt Try.prog 5).ntmps - 3) undef) = loL_S.l.drop 3 := by kernel_rfl
  refine law_of (args' := [.int .u32 y, .int .i64 sec, .int .i64 bt]) loFn_is loBody_is (E := loE_S y sec bt (bt + 3) 0 1) (s := loL_S) ?_ rfl w fun ar hs => ?_
  · letI : Env := env (loE_S y sec bt (bt + 3) 0 1)
    show PW _ loL_S.l (.int .u32 y :: .int .i64 sec :: .int .i64 bt :: List.replicate ((fnAt Try.prog 5).ntmps - 3) undef)
    rw [hlit]
    exact PW.cons (.opq 0 rfl (fun b h => by cases h)) (PW.cons (.opq 1 rfl (fun b h => by cases h)) (PW.cons (.opq 2 rfl (fun b h => by cases h)) (PW.of_flat (by kernel_rfl))))
  · refine los0 y sec bt (bt + 3) 0 1 hy0 hy1 hs0 hs1 hb0 hb1 (by omega) (by omega) (by omega) (by omega) (by omega) (by omega) (rest := (seqR (seqR (seqR (seqR (seqR (seqR (seqR (seqR (seqR (seqR (seqR (seqR ((codeAt Try.prog 5))))))))))))))) (by kernel_rfl) hs (Nat.le_refl _) fun a1 w1 h1 k1 => ?_
    refine wp_seq' (seqL (seqR (seqR (seqR (seqR (seqR (seqR (seqR (seqR (seqR (seqR (seqR (seqR ((codeAt Try.prog 5))))))))))))))) (seqR (seqR (seqR (seqR (seqR (seqR (seqR (seqR (seqR (seqR (seqR (seqR (seqR ((codeAt Try.prog 5))))))))))))))) (by kernel_rfl) ?_
    refine los1 y sec bt (bt + 3) 0 1 hy0 hy1 hs0 hs1 hb0 hb1 (by omega) (by omega) (by omega) (by omega) (by omega) (by omega) (rest := (seqR (seqL (seqR (seqR (seqR (seqR (seqR (seqR (seqR (seqR (seqR (seqR (seqR (seqR ((codeAt Try.prog 5))))))))))))))))) (by kernel_rfl) h1 k1.size fun a2 w2 h2 k2 => ?_
    have k2 := k1.trans k2
    refine wp_block' 0 (inB (seqR (seqL (seqR (seqR (seqR (seqR (seqR (seqR (seqR (seqR (seqR (seqR (seqR (seqR ((codeAt Try.prog 5))))))))))))))))) (by kernel_rfl) ?_
    obtain ⟨n, hn⟩ : ∃ n : Nat, (n : Int) = 10 * sec := ⟨(10 * sec).toNat, by omega⟩
    refine wp_loop' (inB (inB (seqR (seqL (seqR (seqR (seqR (seqR (seqR (seqR (seqR (seqR (seqR (seqR (seqR (seqR ((codeAt Try.prog 5)))))))))))))))))) (by kernel_rfl) (n + 1 + 1) ?_
    refine los2 y sec bt (bt + 3) 0 1 hy0 hy1 hs0 hs1 hb0 hb1 (by omega) (by omega) (by omega) (by omega) (by omega) (by omega) (by omega) (by omega) (by omega) rfl h2 k2.size fun a3 w3 h3 k3 => ?_
    refine (loRounds (w0 := w) y sec bt hy0 hy1 hs0 hs1 hb0 hb1 ?_ ?_ n).1 (bt + 3 + 1) 0 1 a3 w3 (by omega) (by omega) (by omega) h3 (k2.trans k3)
    · intro a4 w4 t d a ht hc0 hc1 hd0 hd1 h4 k4
      simp only [Exit.inBlock, if_true, Exit.then]
      refine los28 y sec bt t d a hy0 hy1 hs0 hs1 hb0 hb1 (by omega) (by omega) (by omega) (by omega) (by omega) (by omega) h4 k4.size fun a5 w5 h5 k5 => ?_
      exact ⟨rfl, _, _, 6, by kernel_rfl, rfl, h5, k4.trans k5⟩
    · intro a4 w4 t d a ht hc0 hc1 hd0 hd1 h4 k4
      simp only [Exit.inBlock, if_true, Exit.then]
      refine los30 y sec bt t d a hy0 hy1 hs0 hs1 hb0 hb1 (by omega) (by omega) (by omega) (by omega) (by omega) (by omega) h4 k4.size fun a5 w5 h5 k5 => ?_
      exact ⟨rfl, _, _, 6, by kernel_rfl, rfl, h5, k4.trans k5⟩
theorem loA (w : World) (y sec bt : Int) (hy0 : 0 ≤ y) (hy1 : y ≤ 4294967295) (hn0 : -9223372036854775808 ≤ sec) (hn1 : sec ≤ 9223372036854775807) (hm0 : -9223372036854775808 ≤ bt) (hm1 : bt ≤ 9223372036854775807) (c0 : y = 0) : Calls Try.prog 5 #[.int .u32 y, .int .i64 sec, .int .i64 bt] w (fun e w' => e = .returned (.bool true) ∧ Only [] w w') := by
  letI : Env := env [.int .u32 y, .int .i64 sec, .int .i64 bt]
  refine lawS [.int .u32 y, .int .i64 sec, .int .i64 bt] [.bin .eql (.chan (some 0)) (.int .u32 0) (.bool true)] (sp := (spKnown 13)) (spKnown_ok knownBody known) ?_ (f := 300) (args := [.chan (some 0), .chan (some 1), .chan (some 2)]) (args' := [.int .u32 y, .int .i64 sec, .int .i64 bt]) (by kernel_rfl) ?_ w
  · intro e he
    simp only [List.mem_cons, List.not_mem_nil, or_false] at he
    subst he
    · exact entCmp (k := .u32) (a := y) (b := 0) rfl rfl (by show some ((y : Int) == 0) = some true; rw [beq_iff_eq.2 (by first | omega | (simp only [sumVal, oct.sumF, oct.F, oct.ws]; omega))])
  · exact (PW.cons (.opq 0 rfl (fun b h => by cases h)) (PW.cons (.opq 1 rfl (fun b h => by cases h)) (PW.cons (.opq 2 rfl (fun b h => by cases h)) (PW.nil _))))
theorem loB (w : World) (y sec bt : Int) (hy0 : 0 ≤ y) (hy1 : y ≤ 4294967295) (hn0 : -9223372036854775808 ≤ sec) (hn1 : sec ≤ 9223372036854775807) (hm0 : -9223372036854775808 ≤ bt) (hm1 : bt ≤ 9223372036854775807) (c0 : ¬ (y = 0)) (c1 : sec < 1) : Calls Try.prog 5 #[.int .u32 y, .int .i64 sec, .int .i64 bt] w (fun e w' => e = .returned (.bool true) ∧ Only [] w w') := by
  letI : Env := env [.int .u32 y, .int .i64 sec, .int .i64 bt]
  refine lawS [.int .u32 y, .int .i64 sec, .int .i64 bt] [.bin .eql (.chan (some 0)) (.int .u32 0) (.bool false), .bin .lss (.chan (some 1)) (.int .i64 1) (.bool true)] (sp := (spKnown 13)) (spKnown_ok knownBody known) ?_ (f := 300) (args := [.chan (some 0), .chan (some 1), .chan (some 2)]) (args' := [.int .u32 y, .int .i64 sec, .int .i64 bt]) (by kernel_rfl) ?_ w
  · intro e he
    simp only [List.mem_cons, List.not_mem_nil, or_false] at he
    rcases he with rfl | rfl
    · exact entCmp (k := .u32) (a := y) (b := 0) rfl rfl (by show some ((y : Int) == 0) = some false; rw [beq_eq_false_iff_ne.2 (by first | omega | (simp only [sumVal, oct.sumF, oct.F, oct.ws]; omega))])
    · exact entCmp (k := .i64) (a := sec) (b := 1) rfl rfl (by show some (decide ((sec : Int) < 1)) = some true; rw [decide_eq_true (by first | omega | (simp only [sumVal, oct.sumF, oct.F, oct.ws]; omega))])
  · exact (PW.cons (.opq 0 rfl (fun b h => by cases h)) (PW.cons (.opq 1 rfl (fun b h => by cases h)) (PW.cons (.opq 2 rfl (fun b h => by cases h)) (PW.nil _))))
theorem loC (w : World) (y sec bt : Int) (hy0 : 0 ≤ y) (hy1 : y ≤ 4294967295) (hn0 : -9223372036854775808 ≤ sec) (hn1 : sec ≤ 9223372036854775807) (hm0 : -9223372036854775808 ≤ bt) (hm1 : bt ≤ 9223372036854775807) (c0 : ¬ (y = 0)) (c1 : ¬ (sec < 1)) (c2 : sec > 400) : Calls Try.prog 5 #[.int .u32 y, .int .i64 sec, .int .i64 bt] w (fun e w' => e = .returned (.bool true) ∧ Only [] w w') := by
  letI : Env := env [.int .u32 y, .int .i64 sec, .int .i64 bt]
  refine lawS [.int .u32 y, .int .i64 sec, .int .i64 bt] [.bin .eql (.chan (some 0)) (.int .u32 0) (.bool false), .bin .lss (.chan (some 1)) (.int .i64 1) (.bool false), .bin .gtr (.chan (some 1)) (.int .i64 400) (.bool true)] (sp := (spKnown 13)) (spKnown_ok knownBody known) ?_ (f := 300) (args := [.chan (some 0), .chan (some 1), .chan (some 2)]) (args' := [.int .u32 y, .int .i64 sec, .int .i64 bt]) (by kernel_rfl) ?_ w
  · intro e he
    simp only [List.mem_cons, List.not_mem_nil, or_false] at he
    rcases he with rfl | rfl | rfl
    · exact entCmp (k := .u32) (a := y) (b := 0) rfl rfl (by show some ((y : Int) == 0) = some false; rw [beq_eq_false_iff_ne.2 (by first | omega | (simp only [sumVal, oct.sumF, oct.F, oct.ws]; omega))])
    · exact entCmp (k := .i64) (a := sec) (b := 1) rfl rfl (by show some (decide ((sec : Int) < 1)) = some false; rw [decide_eq_false (by first | omega | (simp only [sumVal, oct.sumF, oct.F, oct.ws]; omega))])
    · exact entCmp (k := .i64) (a := sec) (b := 400) rfl rfl (by show some (decide ((sec : Int) > 400)) = some true; rw [decide_eq_true (by first | omega | (simp only [sumVal, oct.sumF, oct.F, oct.ws]; omega))])
  · exact (PW.cons (.opq 0 rfl (fun b h => by cases h)) (PW.cons (.opq 1 rfl (fun b h => by cases h)) (PW.cons (.opq 2 rfl (fun b h => by cases h)) (PW.nil _))))
theorem loD (w : World) (y sec bt : Int) (hy0 : 0 ≤ y) (hy1 : y ≤ 4294967295) (hn0 : -9223372036854775808 ≤ sec) (hn1 : sec ≤ 9223372036854775807) (hm0 : -9223372036854775808 ≤ bt) (hm1 : bt ≤ 9223372036854775807) (c0 : ¬ (y = 0)) (c1 : ¬ (sec < 1)) (c2 : ¬ (sec > 400)) (c3 : bt < 0) : Calls Try.prog 5 #[.int .u32 y, .int .i64 sec, .int .i64 bt] w (fun e w' => e = .returned (.bool true) ∧ Only [] w w') := by
  letI : Env := env [.int .u32 y, .int .i64 sec, .int .i64 bt]
  refine lawS [.int .u32 y, .int .i64 sec, .int .i64 bt] [.bin .eql (.chan (some 0)) (.int .u32 0) (.bool false), .bin .lss (.chan (some 1)) (.int .i64 1) (.bool false), .bin .gtr (.chan (some 1)) (.int .i64 400) (.bool false), .bin .lss (.chan (some 2)) (.int .i64 0) (.bool true)] (sp := (spKnown 13)) (spKnown_ok knownBody known) ?_ (f := 300) (args := [.chan (some 0), .chan (some 1), .chan (some 2)]) (args' := [.int .u32 y, .int .i64 sec, .int .i64 bt]) (by kernel_rfl) ?_ w
  · intro e he
    simp only [List.mem_cons, List.not_mem_nil, or_false] at he
    rcases he with rfl | rfl | rfl | rfl
    · exact entCmp (k := .u32) (a := y) (b := 0) rfl rfl (by show some ((y : Int) == 0) = some false; rw [beq_eq_false_iff_ne.2 (by first | omega | (simp only [sumVal, oct.sumF, oct.F, oct.ws]; omega))])
    · exact entCmp (k := .i64) (a := sec) (b := 1) rfl rfl (by show some (decide ((sec : Int) < 1)) = some false; rw [decide_eq_false (by first | omega | (simp only [sumVal, oct.sumF, oct.F, oct.ws]; omega))])
    · exact entCmp (k := .i64) (a := sec) (b := 400) rfl rfl (by show some (decide ((sec : Int) > 400)) = some false; rw [decide_eq_false (by first | omega | (simp only [sumVal, oct.sumF, oct.F, oct.ws]; omega))])
    · exact entCmp (k := .i64) (a := bt) (b := 0) rfl rfl (by show some (decide ((bt : Int) < 0)) = some true; rw [decide_eq_true (by first | omega | (simp only [sumVal, oct.sumF, oct.F, oct.ws]; omega))])
  · exact (PW.cons (.opq 0 rfl (fun b h => by cases h)) (PW.cons (.opq 1 rfl (fun b h => by cases h)) (PW.cons (.opq 2 rfl (fun b h => by cases h)) (PW.nil _))))
theorem loE (w : World) (y sec bt : Int) (hy0 : 0 ≤ y) (hy1 : y ≤ 4294967295) (hn0 : -9223372036854775808 ≤ sec) (hn1 : sec ≤ 9223372036854775807) (hm0 : -9223372036854775808 ≤ bt) (hm1 : bt ≤ 9223372036854775807) (c0 : ¬ (y = 0)) (c1 : ¬ (sec < 1)) (c2 : ¬ (sec > 400)) (c3 : ¬ (bt < 0)) (c4 : bt > 1000000) : Calls Try.prog 5 #[.int .u32 y, .int .i64 sec, .int .i64 bt] w (fun e w' => e = .returned (.bool true) ∧ Only [] w w') := by
  letI : Env := env [.int .u32 y, .int .i64 sec, .int .i64 bt]
  refine lawS [.int .u32 y, .int .i64 sec, .int .i64 bt] [.bin .eql (.chan (some 0)) (.int .u32 0) (.bool false), .bin .lss (.chan (some 1)) (.int .i64 1) (.bool false), .bin .gtr (.chan (some 1)) (.int .i64 400) (.bool false), .bin .lss (.chan (some 2)) (.int .i64 0) (.bool false), .bin .gtr (.chan (some 2)) (.int .i64 1000000) (.bool true)] (sp := (spKnown 13)) (spKnown_ok knownBody known) ?_ (f := 300) (args := [.chan (some 0), .chan (some 1), .chan (some 2)]) (args' := [.int .u32 y, .int .i64 sec, .int .i64 bt]) (by kernel_rfl) ?_ w
  · intro e he
    simp only [List.mem_cons, List.not_mem_nil, or_false] at he
    rcases he with rfl | rfl | rfl | rfl | rfl
    · exact entCmp (k := .u32) (a := y) (b := 0) rfl rfl (by show some ((y : Int) == 0) = some false; rw [beq_eq_false_iff_ne.2 (by first | omega | (simp only [sumVal, oct.sumF, oct.F, oct.ws]; omega))])
    · exact entCmp (k := .i64) (a := sec) (b := 1) rfl rfl (by show some (decide ((sec : Int) < 1)) = some false; rw [decide_eq_false (by first | omega | (simp only [sumVal, oct.sumF, oct.F, oct.ws]; omega))])
    · exact entCmp (k := .i64) (a := sec) (b := 400) rfl rfl (by show some (decide ((sec : Int) > 400)) = some false; rw [decide_eq_false (by first | omega | (simp only [sumVal, oct.sumF, oct.F, oct.ws]; omega))])
    · exact entCmp (k := .i64) (a := bt) (b := 0) rfl rfl (by show some (decide ((bt : Int) < 0)) = some false; rw [decide_eq_false (by first | omega | (simp only [sumVal, oct.sumF, oct.F, oct.ws]; omega))])
    · exact entCmp (k := .i64) (a := bt) (b := 1000000) rfl rfl (by show some (decide ((bt : Int) > 1000000)) = some true; rw [decide_eq_true (by first | omega | (simp only [sumVal, oct.sumF, oct.F, oct.ws]; omega))])
  · exact (PW.cons (.opq 0 rfl (fun b h => by cases h)) (PW.cons (.opq 1 rfl (fun b h => by cases h)) (PW.cons (.opq 2 rfl (fun b h => by cases h)) (PW.nil _))))
theorem loAll (w : World) (y sec bt : Int) (hy0 : 0 ≤ y) (hy1 : y ≤ 4294967295) (hn0 : -9223372036854775808 ≤ sec) (hn1 : sec ≤ 9223372036854775807) (hm0 : -9223372036854775808 ≤ bt) (hm1 : bt ≤ 9223372036854775807) : Calls Try.prog 5 #[.int .u32 y, .int .i64 sec, .int .i64 bt] w (fun e w' => e = .returned (.bool true) ∧ Only [] w w') := by
  by_cases c0 : y = 0
  · exact loA w y sec bt hy0 hy1 hn0 hn1 hm0 hm1 c0
  by_cases c1 : sec < 1
  · exact loB w y sec bt hy0 hy1 hn0 hn1 hm0 hm1 c0 c1
  by_cases c2 : sec > 400
  · exact loC w y sec bt hy0 hy1 hn0 hn1 hm0 hm1 c0 c1 c2
  by_cases c3 : bt < 0
  · exact loD w y sec bt hy0 hy1 hn0 hn1 hm0 hm1 c0 c1 c2 c3
  by_cases c4 : bt > 1000000
  · exact loE w y sec bt hy0 hy1 hn0 hn1 hm0 hm1 c0 c1 c2 c3 c4
  exact loMain w y sec bt (by omega) hy1 (by omega) (by omega) (by omega) (by omega)
end Go.Proofs.Ytdpmjghdmpaehaa.ev
