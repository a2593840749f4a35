/-
  Chapter 8 (route): the document's Find, by a walk of its text. Conditions: none but those typed.
-/
import Derived.Test.YtoidpakenocllaaRtM
namespace Go.Proofs.Ytoidpakenocllaa.rou
set_option linter.unusedVariables false
set_option linter.unusedSimpArgs false
open Go.ChangeShapes Go.WideShapes Go.ChangeAt Go.RowKit Go.IntWalk Go.Lib
theorem srt_first {D : List Rt} (hs : Srt D) {j : Nat} (hj : j < D.length) {a : Int} (hno : ∀ k (hk : k < D.length), k < j → ¬ Fts D[k] a) : ∀ y ∈ D, Fts y a → ¬ Ahd y D[j] := fun y hy hf hA => by
  obtain ⟨k, hk, rfl⟩ := List.getElem_of_mem hy
  rcases Nat.lt_trichotomy k j with h | h | h
  · exact hno k hk h hf
  · subst h; exact Ahd.asym hA hA
  · exact Ahd.asym hA (List.pairwise_iff_getElem.1 hs j k hj hk h)
set_option maxRecDepth 100000 in
set_option maxHeartbeats 4000000 in
theorem findD (w : World) (B g : Nat) (v : Value) (D : List Rt) (a : Int) (h : DTV w B g v D) (hs : Srt D) (hok : ∀ y ∈ D, y.ok) (hl : D.length ≤ 64) (ha : 0 ≤ a ∧ a ≤ 4294967295) :
    Calls Try.prog 13 #[.pointer (some ⟨g, 0, none⟩), .int .u32 a] w (FinE D a w) := by
  obtain ⟨A, c, rfl, -, -, -, hr, -, -⟩ := RdS.of_own h.own (rws_one enc_one _)
  have HR := hid hr; have HO := hid h.ob; have HS := hid hs; have HK := hid hok
  obtain ⟨n, hn⟩ : ∃ n, D.length = n := ⟨_, rfl⟩
  have HN := hid hn
  rw [hn] at HR HO hl
  clear h hr hn hs hok
  obtain ⟨W0, hW0⟩ : ∃ W0, w.alloc (.cells #[.int .u32 0, .int .i64 0, .int .u32 0, .int .i64 0] 34) = W0 := ⟨_, rfl⟩
  have OB : Hid (Ob W0 w.heap.size 34 #[.int .u32 0, .int .i64 0, .int .u32 0, .int .i64 0]) := hid (by rw [← hW0]; exact Ob.new _ _ _)
  have Q0 : Hid (Only [] w W0) := hid (by rw [← hW0]; exact (Only.refl [] w).alloc _)
  go_enter Try.func13, Try.ntmps13
  go_wp2_with fail
  go_loopw [6] (fun i wr => ∃ j : Nat, j ≤ n ∧ i = .int .i64 j ∧ Hid (∀ k (hk : k < D.length), k < j → ¬ Fts D[k] a) ∧ Hid (Only [] W0 wr)) (fun i _ => n - (RowKit.intOf i).toNat)
  case atStart => exact ⟨0, by omega, rfl, hid (fun k hk h => absurd h (by omega)), hid (Only.refl _ _)⟩
  case round =>
    obtain ⟨j, hj, rfl, HNF, HQ⟩ := hrel
    have k0 := (HO.out.only (Q0.out.trans HQ.out) (by simp)).cell 0
    have OR1 := hid (OB.out.only HQ.out (by simp)); have QB1 := hid (Q0.out.trans HQ.out)
    by_cases hjn : j < n
    · have hjl : j < D.length := by rw [HN.out]; exact hjn
      obtain ⟨b, off, rfl, -, hc1⟩ := (HR.out.only_nil QB1.out).elem HN.out enc_len (by omega) j hjl
      obtain ⟨y, hy⟩ : ∃ y, D[j] = y := ⟨_, rfl⟩
      have HY := hid hy
      have HYo : Hid y.ok := hid (by rw [← hy]; exact HK.out _ (List.getElem_mem hjl))
      have HJL := hid hjl
      rw [hy] at hc1
      obtain ⟨yn, yb, yv, ym⟩ := y
      have d0 : wr.cell? ⟨b, off + j * 4, none⟩ = some (.int .u32 yn) := by have := hc1 0 _ rfl; rwa [Nat.add_zero] at this
      have d1 := hc1 1 _ rfl; have d2 := hc1 2 _ rfl; have d3 := hc1 3 _ rfl
      have HD0 := hid d0; have HD1 := hid d1; have HD2 := hid d2; have HD3 := hid d3; have HK0 := hid k0
      clear hc1 hy
      go_wp2_with fail
      clear d0 d1 d2 d3 k0
      refine (fits2 wr ⟨yn, yb, yv, ym⟩ a HYo.out ha).mono ?_
      rintro x w2 ⟨rfl, o2⟩
      by_cases hft : Fts ⟨yn, yb, yv, ym⟩ a
      · have hd : decide (Fts ⟨yn, yb, yv, ym⟩ a) = true := decide_eq_true hft
        rw [hd]
        have HF : Hid (Fnd D a 0 (Rt.val ⟨yn, yb, yv, ym⟩)) := hid (.inr ⟨⟨yn, yb, yv, ym⟩, rfl, rfl, by rw [← HY.out]; exact List.getElem_mem HJL.out, hft, by have := srt_first HS.out HJL.out HNF.out; rw [HY.out] at this; exact this⟩)
        have d0 := o2.keep HD0.out; have d1 := o2.keep HD1.out; have d2 := o2.keep HD2.out; have d3 := o2.keep HD3.out; have k0 := o2.keep HK0.out
        have OR2 := hid (OR1.out.only o2 (by simp)); have QB2 := hid (QB1.out.trans o2)
        clear hd hft o2
        go_wp2_with (refine wp_storeOb rfl 34 _ _ rfl _ _ rfl rfl _ _ OR2.out rfl (by kernel_rfl) (by simp [Value.oneCell']) (fun W5 hW5 => ?_); try simp only [Act.put, List.setIfInBounds_toArray, List.set_cons_zero, List.set_cons_succ]; have OR5 := hid (OR2.out.eq_all hW5 rfl); have QB5 := hid (QB2.out.eq_all hW5 (Or.inr (by simp))); clear hW5)
        have r0 := OR5.out.cell 0; have r1 := OR5.out.cell 1; have r2 := OR5.out.cell 2; have r3 := OR5.out.cell 3
        exact bodyPost_ret (v := .tuple #[.agg #[.int .u32 yn, .int .i64 yb, .int .u32 yv, .int .i64 ym], .int .i64 0]) (by simp [results, Try.results13, go_sem, *]) rfl ⟨⟨_, _, rfl, HF.out⟩, QB5.out⟩
      · have hd : decide (Fts ⟨yn, yb, yv, ym⟩ a) = false := decide_eq_false hft
        rw [hd]
        have HNF2 : Hid (∀ k (hk : k < D.length), k < j + 1 → ¬ Fts D[k] a) := hid (fun k hk h9 => by
          rcases Nat.lt_or_ge k j with h8 | h8
          · exact HNF.out k hk h8
          · obtain rfl : k = j := by omega
            rw [HY.out]; exact hft)
        have Q2 := hid (HQ.out.trans o2)
        clear hd hft o2
        go_wp2_with fail
        go_roundw
        case rel => exact ⟨j + 1, by omega, by first | rfl | go_num, HNF2, Q2⟩
        case measure => simp [RowKit.intOf]; omega
    · have HF : Hid (Fnd D a 7 (.agg #[.int .u32 0, .int .i64 0, .int .u32 0, .int .i64 0])) := hid (.inl ⟨rfl, rfl, fun y hy => by
        obtain ⟨k, hk, rfl⟩ := List.getElem_of_mem hy
        exact HNF.out k hk (by have := HN.out; omega)⟩)
      go_wp2_with (refine wp_storeOb rfl 34 _ _ rfl _ _ rfl rfl _ _ OR1.out rfl (by kernel_rfl) (by simp [Value.oneCell']) (fun W5 hW5 => ?_); try simp only [Act.put, List.setIfInBounds_toArray, List.set_cons_zero, List.set_cons_succ]; have OR5 := hid (OR1.out.eq_all hW5 rfl); have QB5 := hid (QB1.out.eq_all hW5 (Or.inr (by simp))); clear hW5)
      have r0 := OR5.out.cell 0; have r1 := OR5.out.cell 1; have r2 := OR5.out.cell 2; have r3 := OR5.out.cell 3
      exact bodyPost_ret (v := .tuple #[.agg #[.int .u32 0, .int .i64 0, .int .u32 0, .int .i64 0], .int .i64 7]) (by simp [results, Try.results13, go_sem, *]) rfl ⟨⟨_, _, rfl, HF.out⟩, QB5.out⟩
end Go.Proofs.Ytoidpakenocllaa.rou
