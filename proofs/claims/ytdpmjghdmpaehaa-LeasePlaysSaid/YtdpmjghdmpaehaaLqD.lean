/-
  Chapter 23 (lease): of every script what is sent, what the client has, and in which state it is: the law by a walk of its text. Conditions: none but those typed.
-/
import Derived.Test.YtdpmjghdmpaehaaLqC
import Derived.Test.YtdpmjghdmpaehaaEvP23k
namespace Go.Proofs.Ytdpmjghdmpaehaa.lp
set_option linter.unusedVariables false
set_option linter.unusedSimpArgs false
open Go.ChangeShapes Go.WideShapes Go.ChangeAt Go.RowKit Go.IntWalk Go.Lib
section
variable {w : World} {b : Nat} {T : TypeId} {x : Sx}
theorem s_k (h : Ob w b T x.cs) : w.cell? ⟨b, 0, none⟩ = some (.int .i64 x.k) := by rw [h.cell]; simp [Sx.cs, Sx.enc]
theorem s_by (h : Ob w b T x.cs) : w.cell? ⟨b, 1, none⟩ = some (.int .i64 x.by_) := by rw [h.cell]; simp [Sx.cs, Sx.enc]
theorem s_dr (h : Ob w b T x.cs) : w.cell? ⟨b, 2, none⟩ = some (.int .i64 x.dr) := by rw [h.cell]; simp [Sx.cs, Sx.enc]
theorem s_own (h : Ob w b T x.cs) : w.cell? ⟨b, 19, none⟩ = some (.bool x.own) := by rw [h.cell]; simp [Sx.cs, Sx.enc, Lm.enc]
theorem r_sm (h : Ob w b T x.cs) : w.rangeAt b 3 x.m.enc := Ob.rangeMid (pre := [.int .i64 x.k, .int .i64 x.by_, .int .i64 x.dr]) (mid := x.m.enc) (post := [.bool x.own]) 3 h rfl
end
theorem len_start (s : Mc) (now draw : Int) : (s.start now draw).2.length ≤ 1 := by unfold Mc.start; split <;> simp
theorem len_free (s : Mc) : s.free.2.length ≤ 1 := by unfold Mc.free; simp only; split <;> simp
theorem len_granted (s : Mc) (l wl : Lm) (now draw : Int) : (s.granted l wl now draw).2.length ≤ 1 := by
  unfold Mc.granted
  split
  · simp
  · split <;> simp
theorem len_hear (s : Mc) (l : Lm) (now draw : Int) : (s.hear l now draw).2.length ≤ 1 := by
  unfold Mc.hear
  split
  · split
    · unfold Mc.offered; split <;> simp
    · split
      · exact len_granted _ _ _ _ _
      · split
        · exact len_granted _ _ _ _ _
        · simp
  · simp
theorem len_tick (s : Mc) (now draw : Int) : (s.tick now draw).2.length ≤ 1 := by
  unfold Mc.tick
  split
  · simp
  · split
    · simp
    · split
      · simp
      · split
        · unfold Mc.again; split <;> simp
        · simp [Mc.renew]
theorem CI.own {w w' : World} {g m : Nat} {s s' : Mc} {L : List Lm} {x : Ending} (h : CI w g m s) (k : StepE m 82 (hearV m ++ tickV m) s' L w x w') : ∃ A n c, x = .returned (.slice A n c) ∧ L.length = n ∧ RdS w' A n 16 (rws Lm.enc L) ∧ (∀ b off, A = some ⟨b, off, none⟩ → w.heap.size ≤ b) ∧ CI w' g m s' ∧ Only [m] w w' := by
  have h9 := ci_step h k
  obtain ⟨A, n, c, h1, h2, h3, h4, -, h6⟩ := k
  exact ⟨A, n, c, h1, h2, h3, h4, h9, h6⟩
set_option maxRecDepth 100000 in
set_option maxHeartbeats 32000000 in
theorem plays (w : World) (a0 a1 a2 a3 a4 a5 : Int) (A : Option Addr) (len c : Nat) (V : Nat → Sx) (h : OplLs w A len V) : Calls Try.prog 4 #[.agg #[.int .u8 a0, .int .u8 a1, .int .u8 a2, .int .u8 a3, .int .u8 a4, .int .u8 a5], .slice A len c] w (fun e w' => e = .returned (.bool true) ∧ Only [] w w') := by
  have HA := hid h; clear h
  obtain ⟨bm, hbm⟩ : ∃ bm, w.heap.size = bm := ⟨_, rfl⟩
  obtain ⟨W1, hW1⟩ : ∃ W1, w.alloc (.cells #[.int .u8 a0, .int .u8 a1, .int .u8 a2, .int .u8 a3, .int .u8 a4, .int .u8 a5] 25) = W1 := ⟨_, rfl⟩
  have OA : Hid (Ob W1 bm 25 #[.int .u8 a0, .int .u8 a1, .int .u8 a2, .int .u8 a3, .int .u8 a4, .int .u8 a5]) := hid (by rw [← hW1, ← hbm]; exact Ob.new _ _ _)
  have q1 : Only [] w W1 := by rw [← hW1]; exact (Only.refl [] w).alloc _
  have QT := hid q1
  have HBL := hid OA.out.lt
  have HBW : Hid (w.heap.size ≤ bm) := hid (by omega)
  have c0 := OA.out.cell 0; have c1 := OA.out.cell 1; have c2 := OA.out.cell 2; have c3 := OA.out.cell 3; have c4 := OA.out.cell 4; have c5 := OA.out.cell 5
  clear q1
  go_enter Try.func4, Try.ntmps4
  go_wp2_with fail
  clear c0 c1 c2 c3 c4 c5
  refine (new1 W1 a0 a1 a2 a3 a4 a5).mono ?_
  rintro x w2 ⟨g, m, rfl, hci, hg, hm, o2⟩
  obtain ⟨W3, hW3⟩ : ∃ W3, w2.alloc (.cells #[.int .u8 a0, .int .u8 a1, .int .u8 a2, .int .u8 a3, .int .u8 a4, .int .u8 a5, .int .i64 0, .int .u32 0, .int .i64 0, .int .i64 0, .int .i64 0, .int .u32 0, .int .u32 0, .int .u8 0, .int .u8 0, .int .u8 0, .int .u8 0, .int .u8 0, .int .u8 0, .int .i64 0, .int .u32 0, .int .u32 0, .int .i64 0, .int .u32 0, .int .u32 0, .int .u32 0, .int .i64 0, .int .u32 0, .int .u32 0, .int .u8 0, .int .u8 0, .int .u8 0, .int .u8 0, .int .u8 0, .int .u8 0, .int .i64 0, .int .u32 0, .int .u32 0, .int .i64 0, .int .u32 0, .int .u32 0, .int .u32 0, .int .i64 0] 44) = W3 := ⟨_, rfl⟩
  obtain ⟨g2, hg2⟩ : ∃ g2, w2.heap.size = g2 := ⟨_, rfl⟩
  have q3 : Only [] w2 W3 := by rw [← hW3]; exact (Only.refl [] w2).alloc _
  have HD0 : Hid (DI W3 g2 (Mc.new a0 a1 a2 a3 a4 a5)) := hid ⟨_, ⟨Lm.zero, rfl, fun _ => rfl⟩, by rw [← hW3, ← hg2]; exact Ob.new _ _ _⟩
  have HC0 := hid (hci.nil q3)
  have HNE : Hid (bm < g ∧ bm < m ∧ g < g2 ∧ m < g2 ∧ w.heap.size ≤ bm) := hid ⟨Nat.lt_of_lt_of_le HBL.out hg, Nat.lt_of_lt_of_le HBL.out hm, by rw [← hg2]; exact hci.cl.lt, by rw [← hg2]; exact hci.ob.lt, HBW.out⟩
  have OA0 := hid (OA.out.only (o2.trans q3) (by simp)); have QT0 := hid (QT.out.trans (o2.trans q3))
  have c0 := (OA.out.only o2 (by simp)).cell 0; have c1 := (OA.out.only o2 (by simp)).cell 1; have c2 := (OA.out.only o2 (by simp)).cell 2; have c3 := (OA.out.only o2 (by simp)).cell 3; have c4 := (OA.out.only o2 (by simp)).cell 4; have c5 := (OA.out.only o2 (by simp)).cell 5
  clear q3 hci hg hm o2 hW1
  go_wp2_with fail
  clear c0 c1 c2 c3 c4 c5 hW3 hg2 hbm
  go_loopw [7, 8] (fun tn i wr => ∃ (k : Nat) (z : Int) (s : Mc), k ≤ min len 200 ∧ i = .int .i64 k ∧ tn = .int .i64 z ∧ Hid (0 ≤ z ∧ z ≤ k * 1073741824) ∧ Hid (Ok s) ∧ Hid (CI wr g m s) ∧ Hid (DI wr g2 s) ∧ Hid (Ob wr bm 25 #[.int .u8 a0, .int .u8 a1, .int .u8 a2, .int .u8 a3, .int .u8 a4, .int .u8 a5]) ∧ Hid (Only [] w wr)) (fun _ i _ => 200 - (RowKit.intOf i).toNat)
  case atStart => exact ⟨0, 0, _, by omega, rfl, rfl, hid (by omega), hid (Ok.new a0 a1 a2 a3 a4 a5), HC0, HD0, OA0, QT0⟩
  case round =>
    clear HC0 HD0 OA0 QT0 OA QT
    obtain ⟨k, z, s, hk, rfl, rfl, HZ, HOK, HC, HD, OA, QT⟩ := hrel
    by_cases hlt : k < len
    · by_cases h2 : k < 200
      · obtain ⟨b, off, rfl, hb, hc⟩ := (HA.out.only_nil QT.out).cells (by omega)
        have HX := hid (hc k hlt)
        clear hc hb
        generalize V k = x at HX
        obtain ⟨y, hy⟩ : ∃ y, (if x.by_ < 1073741824 then x.by_ else 1073741824) = y := ⟨_, rfl⟩
        have hy2 : (if 1073741824 < x.by_ then 1073741824 else x.by_) = y := by rw [← hy]; split <;> split <;> omega
        obtain ⟨d, hd⟩ : ∃ d, (if 0 < y then y else 0) = d := ⟨_, rfl⟩
        have hyb : y ≤ 1073741824 := by rw [← hy]; split <;> omega
        have hdb : 0 ≤ d ∧ d ≤ 1073741824 := by rw [← hd]; split <;> omega
        have HZ2 : Hid (0 ≤ z + d ∧ z + d ≤ (k + 1 : Nat) * 1073741824) := hid (by have := HZ.out; omega)
        have s1 : IntKind.i64.wrap (z + d) = z + d := i64_in _ (by have := HZ2.out; omega)
        have HTK : Hid (Tk (z + d)) := hid (by have := HZ2.out; unfold Tk; omega)
        obtain ⟨bx, hbx⟩ : ∃ bx, wr.heap.size = bx := ⟨_, rfl⟩
        obtain ⟨WA, hWA⟩ : ∃ WA, wr.alloc (.cells #[.int .i64 0, .int .i64 0, .int .i64 0, .int .i64 0, .int .u32 0, .int .u32 0, .int .u8 0, .int .u8 0, .int .u8 0, .int .u8 0, .int .u8 0, .int .u8 0, .int .i64 0, .int .u32 0, .int .u32 0, .int .i64 0, .int .u32 0, .int .u32 0, .int .u32 0, .bool false] 46) = WA := ⟨_, rfl⟩
        have OX : Hid (Ob WA bx 46 #[.int .i64 0, .int .i64 0, .int .i64 0, .int .i64 0, .int .u32 0, .int .u32 0, .int .u8 0, .int .u8 0, .int .u8 0, .int .u8 0, .int .u8 0, .int .u8 0, .int .i64 0, .int .u32 0, .int .u32 0, .int .i64 0, .int .u32 0, .int .u32 0, .int .u32 0, .bool false]) := hid (by rw [← hWA, ← hbx]; exact Ob.new _ _ _)
        have QA : Hid (Only [] wr WA) := hid (by rw [← hWA]; exact (Only.refl [] wr).alloc _)
        have HBX : Hid (bx ∉ [m, g2] ∧ wr.heap.size ≤ bx) := hid (by
          have h1 := HC.out.ob.lt; have h2 := HD.out.lt
          simp only [List.mem_cons, List.not_mem_nil, or_false]; omega)
        go_wp2_with (first | (refine wpList_load_mid rfl 46 _ rfl b (off + k * 20) rfl x.enc _ HX.out Try.underlying46 rfl (by kernel_rfl) ?_; try simp only [Act.put, List.setIfInBounds_toArray, List.set_cons_zero, List.set_cons_succ]) | (refine wp_put rfl _ _ _ rfl bx 0 rfl (.agg x.cs) rfl OX.out (by kernel_rfl) (Nat.le_of_ble_eq_true rfl) (sx_one x) (OX.out.setAll (vs := x.cs) rfl) ?_) | fail)
        intro WS hb9 o9
        try simp only [Act.put, List.setIfInBounds_toArray, List.set_cons_zero, List.set_cons_succ]
        have OX := hid hb9
        have HQ : Hid (Only [] wr WS) := hid (QA.out.fresh o9 (fun i hi => .inr (by rw [List.mem_singleton.1 hi]; exact HBX.out.2)))
        clear hb9 o9 hWA hbx
        have HC := hid (HC.out.nil HQ.out); have HD := hid (HD.out.only HQ.out (by simp)); have OA := hid (OA.out.only HQ.out (by simp)); have QT := hid (QT.out.trans HQ.out)
        have e0 := s_k OX.out; have e1 := s_by OX.out
        by_cases k1 : x.k = 1
        · have f1 : (x.k == 1) = true := by simp [k1]
          clear k1
          go_wp2_with fail
          refine wp_region_noPanic ?_
          refine rgn.regionT (R := Only [m, g2]) (by kernel_rfl) (Only.refl [m, g2]) (fun _ _ _ => Only.trans) (fun _ _ _ _ _ h => h) (.y 0 (.y 1 (.y 2 (.y 3 (.y 5 (.y 6 (.y 7 (.y 8 (.e 4 (.e 9 (.e 10 (.e 11 .z)))))))))))) (by kernel_rfl) (fun W hWd => ?_)
          have HWd := hid hWd; clear hWd
          have q8 : Only [] WS W := Only.eq_drew (Only.refl [] _) HWd.out
          have HD := hid (HD.out.only q8 (by simp)); have HC := hid (HC.out.nil q8); have OA := hid (OA.out.only q8 (by simp)); have OX := hid (OX.out.only q8 (by simp)); have QT := hid (QT.out.trans q8)
          clear q8 HWd e0 e1
          refine rgn.Walk.ys (v := ?_) rfl rfl rfl ?_ ?_
          rotate_left 1
          · intro W' hW'
            go_simp
            try with_reducible rfl
          try simp only [Act.put, List.setIfInBounds_toArray, List.set_cons_zero, List.set_cons_succ]
          refine rgn.Walk.ys (v := ?_) rfl rfl rfl ?_ ?_
          rotate_left 1
          · intro W' hW'
            go_simp
            try with_reducible rfl
          try simp only [Act.put, List.setIfInBounds_toArray, List.set_cons_zero, List.set_cons_succ]
          refine rgn.Walk.ys (v := ?_) rfl rfl rfl ?_ ?_
          rotate_left 1
          · intro W' hW'
            go_simp
            try with_reducible rfl
          try simp only [Act.put, List.setIfInBounds_toArray, List.set_cons_zero, List.set_cons_succ]
          refine rgn.Walk.ys (v := ?_) rfl rfl rfl ?_ ?_
          rotate_left 1
          · intro W' hW'
            have q0 := s_dr (OX.out.only hW' HBX.out.1)
            go_simp
            try with_reducible rfl
          try simp only [Act.put, List.setIfInBounds_toArray, List.set_cons_zero, List.set_cons_succ]
          refine rgn.Walk.ys (v := ?_) rfl rfl rfl ?_ ?_
          rotate_left 1
          · intro W' hW'
            go_simp
            try with_reducible rfl
          try simp only [Act.put, List.setIfInBounds_toArray, List.set_cons_zero, List.set_cons_succ]
          refine rgn.Walk.ys (v := ?_) rfl rfl rfl ?_ ?_
          rotate_left 1
          · intro W' hW'
            go_simp
            try with_reducible rfl
          try simp only [Act.put, List.setIfInBounds_toArray, List.set_cons_zero, List.set_cons_succ]
          refine rgn.Walk.ys (v := ?_) rfl rfl rfl ?_ ?_
          rotate_left 1
          · intro W' hW'
            go_simp
            try with_reducible rfl
          try simp only [Act.put, List.setIfInBounds_toArray, List.set_cons_zero, List.set_cons_succ]
          refine rgn.Walk.ys (v := ?_) rfl rfl rfl ?_ ?_
          rotate_left 1
          · intro W' hW'
            have q0 := s_dr (OX.out.only hW' HBX.out.1)
            go_simp
            try with_reducible rfl
          try simp only [Act.put, List.setIfInBounds_toArray, List.set_cons_zero, List.set_cons_succ]
          refine rgn.Walk.es ?_
          refine rgn.stepE rfl rfl (fun K hK => ?_)
          have HG2 := hid HD.out.lt
          go_simp
          refine (start1 _ g m s (z + d) x.dr HC.out HTK.out).mono ?_
          intro x3 w3 hx3
          obtain ⟨A3, n3, c3, rfl, hl, hr, hf, hci, o3⟩ := HC.out.own hx3
          refine hK _ _ (o3.more (by simp)) ?_
          clear hK K
          try simp only [Act.put, List.setIfInBounds_toArray, List.set_cons_zero, List.set_cons_succ]
          have HL := hid hl; have HR := hid hr; have HF := hid hf; have HC := hid hci; have HD := hid (HD.out.only o3 (by have := HNE.out; simp; omega)); have OA := hid (OA.out.only o3 (by have := HNE.out; simp; omega)); have OX := hid (OX.out.only o3 (by have := HBX.out.1; simp at this ⊢; omega)); have QT := hid (QT.out.fresh o3 (fun i hi => .inr (by rw [List.mem_singleton.1 hi]; have := HNE.out; omega)))
          clear hl hr hf hci o3 hx3
          refine rgn.Walk.es ?_
          refine rgn.stepE rfl rfl (fun K hK => ?_)
          go_simp
          refine (docStart _ g2 s (z + d) x.dr HD.out HTK.out).mono ?_
          rintro x4 w4 ⟨A4, n4, c4, rfl, hl, hr, hf, hdi, o4⟩
          refine hK _ _ (o4.more (by simp)) ?_
          clear hK K
          try simp only [Act.put, List.setIfInBounds_toArray, List.set_cons_zero, List.set_cons_succ]
          have hg := HD.out.lt
          have HRA := hid (HR.out.only o4 (fun b off e _ hm => by have h8 := HF.out b off e; rw [List.mem_singleton.1 hm] at h8; have := HG2.out; omega)); have HRB := hid hr; have HLB := hid hl; have HD := hid hdi; have HC := hid (HC.out.only o4 (by have := HNE.out; simp; omega) (by have := HNE.out; simp; omega)); have OA := hid (OA.out.only o4 (by have := HNE.out; simp; omega)); have OX := hid (OX.out.only o4 (by have := HBX.out.1; simp at this ⊢; omega)); have QT := hid (QT.out.fresh o4 (fun i hi => .inr (by rw [List.mem_singleton.1 hi]; have := HNE.out; omega)))
          clear hl hr hf hdi o4 hg
          refine rgn.Walk.es ?_
          refine rgn.stepE rfl rfl (fun K hK => ?_)
          have HL1 := hid (len_start s (z + d) x.dr)
          have hnn := HL.out.symm.trans HLB.out
          subst hnn
          go_simp
          refine (rows1 _ A3 A4 n3 c3 c4 _ HRA.out HRB.out HL.out (by have h7 := HL1.out; have h8 := HL.out; omega)).mono ?_
          rintro x5 w5 ⟨rfl, o5⟩
          refine hK _ _ (o5.more (by simp)) ?_
          clear hK K
          try simp only [Act.put, List.setIfInBounds_toArray, List.set_cons_zero, List.set_cons_succ]
          have HD := hid (HD.out.only o5 (by simp)); have HC := hid (HC.out.nil o5); have OA := hid (OA.out.only o5 (by simp)); have OX := hid (OX.out.only o5 (by simp)); have QT := hid (QT.out.trans o5)
          clear o5
          refine rgn.Walk.es ?_
          refine rgn.stepE rfl rfl (fun K hK => ?_)
          go_simp
          refine hK _ _ ((Only.refl [m, g2]) _) ?_
          clear hK K
          try simp only [Act.put, List.setIfInBounds_toArray, List.set_cons_zero, List.set_cons_succ]
          refine rgn.Walk.zs (NoPanic.normal ?_)
          have HOK9 := hid (HOK.out.start (z + d) x.dr)
          obtain ⟨s9, hs9⟩ : ∃ s9, (s.start (z + d) x.dr).1 = s9 := ⟨_, rfl⟩
          simp only [hs9] at HC HD HOK9
          clear hs9
          obtain ⟨r, hr⟩ : ∃ r, decide (3 ≤ s9.st) = r := ⟨_, rfl⟩
          have HRR := hid hr
          clear hr
          go_wp2_with fail
          refine (hasC1 _ g m s9 HC.out).mono ?_
          rintro x6 w6 ⟨rfl, q8⟩
          rw [HRR.out]
          have HD := hid (HD.out.only q8 (by simp)); have HC := hid (HC.out.nil q8); have OA := hid (OA.out.only q8 (by simp)); have OX := hid (OX.out.only q8 (by simp)); have QT := hid (QT.out.trans q8)
          clear q8
          obtain ⟨bp, hbp⟩ : ∃ bp, w6.heap.size = bp := ⟨_, rfl⟩
          obtain ⟨WB, hWB⟩ : ∃ WB, w6.alloc (.cells #[.int .i64 0, .int .u32 0, .int .u32 0, .int .u8 0, .int .u8 0, .int .u8 0, .int .u8 0, .int .u8 0, .int .u8 0, .int .i64 0, .int .u32 0, .int .u32 0, .int .i64 0, .int .u32 0, .int .u32 0, .int .u32 0] 27) = WB := ⟨_, rfl⟩
          have Obp : Hid (Ob WB bp 27 Lm.zero.cs) := hid (by rw [← hWB, ← hbp]; exact Ob.new _ _ _)
          have QA : Hid (Only [] w6 WB) := hid (by rw [← hWB]; exact (Only.refl [] w6).alloc _)
          have Hbp : Hid (w6.heap.size ≤ bp) := hid (by omega)
          go_wp2_with (first | (refine wp_put rfl _ _ _ rfl bp 0 rfl (.agg s9.had.cs) rfl Obp.out (by kernel_rfl) (show _ ≤ 16 from Nat.le_of_ble_eq_true rfl) (one_l _) (p_all Obp.out s9.had) ?_) | fail)
          intro W9 hb9 o9
          try simp only [Act.put, List.setIfInBounds_toArray, List.set_cons_zero, List.set_cons_succ]
          have Obp := hid hb9
          have HQ : Hid (Only [] w6 W9) := hid (QA.out.fresh o9 (fun i hi => .inr (by rw [List.mem_singleton.1 hi]; exact Hbp.out)))
          clear hb9 o9 hWB hbp
          have q8 := HQ.out
          have HD := hid (HD.out.only q8 (by simp)); have HC := hid (HC.out.nil q8); have OA := hid (OA.out.only q8 (by simp)); have OX := hid (OX.out.only q8 (by simp)); have QT := hid (QT.out.trans q8)
          clear q8
          go_wp2_with fail
          refine (docHas _ g2 s9 HD.out).mono ?_
          rintro x7 w7 ⟨rfl, q8⟩
          rw [HRR.out]
          have HD := hid (HD.out.only q8 (by simp)); have HC := hid (HC.out.nil q8); have OA := hid (OA.out.only q8 (by simp)); have OX := hid (OX.out.only q8 (by simp)); have QT := hid (QT.out.trans q8)
          have Obp := hid (Obp.out.only q8 (by simp))
          clear q8
          obtain ⟨bq, hbq⟩ : ∃ bq, w7.heap.size = bq := ⟨_, rfl⟩
          obtain ⟨WC, hWC⟩ : ∃ WC, w7.alloc (.cells #[.int .i64 0, .int .u32 0, .int .u32 0, .int .u8 0, .int .u8 0, .int .u8 0, .int .u8 0, .int .u8 0, .int .u8 0, .int .i64 0, .int .u32 0, .int .u32 0, .int .i64 0, .int .u32 0, .int .u32 0, .int .u32 0] 27) = WC := ⟨_, rfl⟩
          have Obq : Hid (Ob WC bq 27 Lm.zero.cs) := hid (by rw [← hWC, ← hbq]; exact Ob.new _ _ _)
          have QA : Hid (Only [] w7 WC) := hid (by rw [← hWC]; exact (Only.refl [] w7).alloc _)
          have Hbq : Hid (w7.heap.size ≤ bq) := hid (by omega)
          go_wp2_with (first | (refine wp_put rfl _ _ _ rfl bq 0 rfl (.agg s9.had.cs) rfl Obq.out (by kernel_rfl) (show _ ≤ 16 from Nat.le_of_ble_eq_true rfl) (one_l _) (p_all Obq.out s9.had) ?_) | fail)
          intro W9 hb9 o9
          try simp only [Act.put, List.setIfInBounds_toArray, List.set_cons_zero, List.set_cons_succ]
          have Obq := hid hb9
          have HQ : Hid (Only [] w7 W9) := hid (QA.out.fresh o9 (fun i hi => .inr (by rw [List.mem_singleton.1 hi]; exact Hbq.out)))
          clear hb9 o9 hWC hbq
          have q8 := HQ.out
          have HD := hid (HD.out.only q8 (by simp)); have HC := hid (HC.out.nil q8); have OA := hid (OA.out.only q8 (by simp)); have OX := hid (OX.out.only q8 (by simp)); have QT := hid (QT.out.trans q8)
          have Obp := hid (Obp.out.only q8 (by simp))
          clear q8
          go_wp2_with fail
          refine wp_region_noPanic ?_
          refine rgn.regionT (R := Only []) (by kernel_rfl) (Only.refl []) (fun _ _ _ => Only.trans) (fun _ _ _ _ _ h => h) (.y 0 (.y 1 (.y 2 (.y 3 (.y 4 (.y 5 (.y 6 (.y 7 (.y 8 (.y 9 (.y 10 (.y 11 (.y 12 (.y 13 (.y 15 (.y 16 (.y 17 (.y 18 (.e 14 (.y 19 (.y 20 .z))))))))))))))))))))) (by kernel_rfl) (fun W hWd => ?_)
          have HWd := hid hWd; clear hWd
          have q8 : Only [] W9 W := Only.eq_drew (Only.refl [] _) HWd.out
          have HD := hid (HD.out.only q8 (by simp)); have HC := hid (HC.out.nil q8); have OA := hid (OA.out.only q8 (by simp)); have OX := hid (OX.out.only q8 (by simp)); have QT := hid (QT.out.trans q8)
          have Obp := hid (Obp.out.only q8 (by simp)); have Obq := hid (Obq.out.only q8 (by simp))
          clear q8 HWd
          refine rgn.Walk.ys (v := ?_) rfl rfl rfl ?_ ?_
          rotate_left 1
          · intro W' hW'
            go_simp
            try with_reducible rfl
          try simp only [Act.put, List.setIfInBounds_toArray, List.set_cons_zero, List.set_cons_succ]
          refine rgn.Walk.ys (v := ?_) rfl rfl rfl ?_ ?_
          rotate_left 1
          · intro W' hW'
            go_simp
            try with_reducible rfl
          try simp only [Act.put, List.setIfInBounds_toArray, List.set_cons_zero, List.set_cons_succ]
          refine rgn.Walk.ys (v := ?_) rfl rfl rfl ?_ ?_
          rotate_left 1
          · intro W' hW'
            go_simp
            try with_reducible rfl
          try simp only [Act.put, List.setIfInBounds_toArray, List.set_cons_zero, List.set_cons_succ]
          refine rgn.Walk.ys rfl rfl rfl (fun W' hW' => exec_lm _ _ rfl bp 0 rfl s9.had (r_all (Obp.out.only hW' (by simp))) Try.underlying27 rfl (by kernel_rfl)) ?_
          try simp only [Act.put, List.setIfInBounds_toArray, List.set_cons_zero, List.set_cons_succ]
          refine rgn.Walk.ys rfl rfl rfl (fun W' hW' => exec_lm _ _ rfl bq 0 rfl s9.had (r_all (Obq.out.only hW' (by simp))) Try.underlying27 rfl (by kernel_rfl)) ?_
          try simp only [Act.put, List.setIfInBounds_toArray, List.set_cons_zero, List.set_cons_succ]
          refine rgn.Walk.ys rfl rfl rfl (fun W' hW' => exec_ne _ _ _ rfl s9.had rfl rfl) ?_
          try simp only [Act.put, List.setIfInBounds_toArray, List.set_cons_zero, List.set_cons_succ]
          refine rgn.Walk.ys (v := ?_) rfl rfl rfl ?_ ?_
          rotate_left 1
          · intro W' hW'
            go_simp
            try with_reducible rfl
          try simp only [Act.put, List.setIfInBounds_toArray, List.set_cons_zero, List.set_cons_succ]
          refine rgn.Walk.ys (v := ?_) rfl rfl rfl ?_ ?_
          rotate_left 1
          · intro W' hW'
            go_simp
            try with_reducible rfl
          try simp only [Act.put, List.setIfInBounds_toArray, List.set_cons_zero, List.set_cons_succ]
          refine rgn.Walk.ys (v := ?_) rfl rfl rfl ?_ ?_
          rotate_left 1
          · intro W' hW'
            go_simp
            try with_reducible rfl
          try simp only [Act.put, List.setIfInBounds_toArray, List.set_cons_zero, List.set_cons_succ]
          refine rgn.Walk.ys (v := ?_) rfl rfl rfl ?_ ?_
          rotate_left 1
          · intro W' hW'
            go_simp
            try with_reducible rfl
          try simp only [Act.put, List.setIfInBounds_toArray, List.set_cons_zero, List.set_cons_succ]
          refine rgn.Walk.ys (v := ?_) rfl rfl rfl ?_ ?_
          rotate_left 1
          · intro W' hW'
            go_simp
            try with_reducible rfl
          try simp only [Act.put, List.setIfInBounds_toArray, List.set_cons_zero, List.set_cons_succ]
          refine rgn.Walk.ys (v := ?_) rfl rfl rfl ?_ ?_
          rotate_left 1
          · intro W' hW'
            go_simp
            try with_reducible rfl
          try simp only [Act.put, List.setIfInBounds_toArray, List.set_cons_zero, List.set_cons_succ]
          refine rgn.Walk.ys (v := ?_) rfl rfl rfl ?_ ?_
          rotate_left 1
          · intro W' hW'
            go_simp
            try with_reducible rfl
          try simp only [Act.put, List.setIfInBounds_toArray, List.set_cons_zero, List.set_cons_succ]
          refine rgn.Walk.ys (v := ?_) rfl rfl rfl ?_ ?_
          rotate_left 1
          · intro W' hW'
            go_simp
            try with_reducible rfl
          try simp only [Act.put, List.setIfInBounds_toArray, List.set_cons_zero, List.set_cons_succ]
          refine rgn.Walk.ys (v := ?_) rfl rfl rfl ?_ ?_
          rotate_left 1
          · intro W' hW'
            go_simp
            try with_reducible rfl
          try simp only [Act.put, List.setIfInBounds_toArray, List.set_cons_zero, List.set_cons_succ]
          refine rgn.Walk.ys (v := ?_) rfl rfl rfl ?_ ?_
          rotate_left 1
          · intro W' hW'
            go_simp
            try with_reducible rfl
          try simp only [Act.put, List.setIfInBounds_toArray, List.set_cons_zero, List.set_cons_succ]
          refine rgn.Walk.ys (v := ?_) rfl rfl rfl ?_ ?_
          rotate_left 1
          · intro W' hW'
            go_simp
            try with_reducible rfl
          try simp only [Act.put, List.setIfInBounds_toArray, List.set_cons_zero, List.set_cons_succ]
          refine rgn.Walk.ys (v := ?_) rfl rfl rfl ?_ ?_
          rotate_left 1
          · intro W' hW'
            have q0 := (HD.out.only hW' (by simp)).st
            go_simp
            try with_reducible rfl
          try simp only [Act.put, List.setIfInBounds_toArray, List.set_cons_zero, List.set_cons_succ]
          refine rgn.Walk.es ?_
          refine rgn.stepE rfl rfl (fun K hK => ?_)
          go_simp
          refine (state1 _ g m s9 HC.out).mono ?_
          rintro x8 w8 ⟨rfl, rfl⟩
          refine hK _ _ (Only.refl _ _) ?_
          clear hK K
          try simp only [Act.put, List.setIfInBounds_toArray, List.set_cons_zero, List.set_cons_succ]
          refine rgn.Walk.ys (v := ?_) rfl rfl rfl ?_ ?_
          rotate_left 1
          · intro W' hW'
            go_simp
            try with_reducible rfl
          try simp only [Act.put, List.setIfInBounds_toArray, List.set_cons_zero, List.set_cons_succ]
          refine rgn.Walk.ys (v := ?_) rfl rfl rfl ?_ ?_
          rotate_left 1
          · intro W' hW'
            go_simp
            try with_reducible rfl
          try simp only [Act.put, List.setIfInBounds_toArray, List.set_cons_zero, List.set_cons_succ]
          refine rgn.Walk.zs (NoPanic.normal ?_)
          go_wp2_with fail
          go_roundw
          case rel => exact ⟨k + 1, z + d, s9, by omega, by first | rfl | go_num, rfl, HZ2, HOK9, HC, HD, OA, QT⟩
          case measure => simp [RowKit.intOf]; omega
        · by_cases k2 : x.k = 2
          · have f1 : (x.k == 1) = false := by simp [k1]
            have f2 : (x.k == 2) = true := by simp [k2]
            clear k1 k2
            cases ho : x.own with
            | true =>
              have HOW := hid ho
              have e19 := s_own OX.out
              rw [ho] at e19
              clear ho
              obtain ⟨bl, hbl⟩ : ∃ bl, WS.heap.size = bl := ⟨_, rfl⟩
              obtain ⟨WB, hWB⟩ : ∃ WB, WS.alloc (.cells #[.int .i64 0, .int .u32 0, .int .u32 0, .int .u8 0, .int .u8 0, .int .u8 0, .int .u8 0, .int .u8 0, .int .u8 0, .int .i64 0, .int .u32 0, .int .u32 0, .int .i64 0, .int .u32 0, .int .u32 0, .int .u32 0] 27) = WB := ⟨_, rfl⟩
              have Obl : Hid (Ob WB bl 27 Lm.zero.cs) := hid (by rw [← hWB, ← hbl]; exact Ob.new _ _ _)
              have QA : Hid (Only [] WS WB) := hid (by rw [← hWB]; exact (Only.refl [] WS).alloc _)
              have Hbl : Hid (WS.heap.size ≤ bl) := hid (by omega); have HBL2 : Hid (g2 ∉ [bl] ∧ g ∉ [bl] ∧ m ∉ [bl] ∧ bm ∉ [bl] ∧ bx ∉ [bl] ∧ w.heap.size ≤ bl) := hid (by have h1 := HD.out.lt; have h2 := HC.out.cl.lt; have h3 := HC.out.ob.lt; have h4 := OA.out.lt; have h5 := OX.out.lt; have h6 := QT.out.size; simp only [List.mem_singleton]; omega); have HBL3 : Hid (bl ∉ [m, g2]) := hid (by have h1 := HD.out.lt; have h3 := HC.out.ob.lt; simp only [List.mem_cons, List.not_mem_nil, or_false]; omega)
              go_wp2_with (first | (refine wp_lm rfl 27 _ rfl bx 3 rfl x.m (r_sm OX.out) Try.underlying27 rfl (by kernel_rfl) ?_; try simp only [Act.put, List.setIfInBounds_toArray, List.set_cons_zero, List.set_cons_succ]) | (refine wp_put rfl _ _ _ rfl bl 0 rfl (.agg x.m.cs) rfl Obl.out (by kernel_rfl) (show _ ≤ 16 from Nat.le_of_ble_eq_true rfl) (one_l _) (p_all Obl.out x.m) ?_) | fail)
              intro W9 hb9 o9
              try simp only [Act.put, List.setIfInBounds_toArray, List.set_cons_zero, List.set_cons_succ]
              have Obl := hid hb9
              have HQ : Hid (Only [] WS W9) := hid (QA.out.fresh o9 (fun i hi => .inr (by rw [List.mem_singleton.1 hi]; exact Hbl.out)))
              clear hb9 o9 hWB hbl
              have q8 := HQ.out
              have HD := hid (HD.out.only q8 (by simp)); have HC := hid (HC.out.nil q8); have OA := hid (OA.out.only q8 (by simp)); have OX := hid (OX.out.only q8 (by simp)); have QT := hid (QT.out.trans q8)
              clear q8 e0 e1 e19
              have e19 := s_own OX.out
              rw [HOW.out] at e19
              go_wp2_with (first | (refine wp_put rfl _ _ _ rfl bl 0 rfl (.int .i64 2) rfl Obl.out (by kernel_rfl) (show _ ≤ 16 from Nat.le_of_ble_eq_true rfl) (one_i _ _) (q_op Obl.out 2) ?_) | fail)
              intro W9 hb9 o9
              try simp only [Act.put, List.setIfInBounds_toArray, List.set_cons_zero, List.set_cons_succ]
              have Obl := hid hb9
              have HD := hid (HD.out.only o9 HBL2.out.1); have HC := hid (HC.out.only o9 HBL2.out.2.1 HBL2.out.2.2.1); have OA := hid (OA.out.only o9 HBL2.out.2.2.2.1); have OX := hid (OX.out.only o9 HBL2.out.2.2.2.2.1); have QT := hid (QT.out.fresh o9 (fun i hi => .inr (by rw [List.mem_singleton.1 hi]; exact HBL2.out.2.2.2.2.2)))
              clear hb9 o9
              have d7 := HD.out.id
              go_wp2_with (first | (refine wp_put rfl _ _ _ rfl bl 1 rfl (.int .u32 s.id) rfl Obl.out (by kernel_rfl) (show _ ≤ 16 from Nat.le_of_ble_eq_true rfl) (one_i _ _) (q_id Obl.out s.id) ?_) | fail)
              intro W9 hb9 o9
              try simp only [Act.put, List.setIfInBounds_toArray, List.set_cons_zero, List.set_cons_succ]
              have Obl := hid hb9
              have HD := hid (HD.out.only o9 HBL2.out.1); have HC := hid (HC.out.only o9 HBL2.out.2.1 HBL2.out.2.2.1); have OA := hid (OA.out.only o9 HBL2.out.2.2.2.1); have OX := hid (OX.out.only o9 HBL2.out.2.2.2.2.1); have QT := hid (QT.out.fresh o9 (fun i hi => .inr (by rw [List.mem_singleton.1 hi]; exact HBL2.out.2.2.2.2.2)))
              clear hb9 o9
              clear d7
              have c0 := OA.out.cell 0; have c1 := OA.out.cell 1; have c2 := OA.out.cell 2; have c3 := OA.out.cell 3; have c4 := OA.out.cell 4; have c5 := OA.out.cell 5
              go_wp2_with (first | (refine wp_put rfl _ _ _ rfl bl 3 rfl (.agg #[.int .u8 a0, .int .u8 a1, .int .u8 a2, .int .u8 a3, .int .u8 a4, .int .u8 a5]) rfl Obl.out (by kernel_rfl) (show _ ≤ 16 from Nat.le_of_ble_eq_true rfl) (one_m _ _ _ _ _ _) (p_mac Obl.out a0 a1 a2 a3 a4 a5) ?_) | fail)
              intro W9 hb9 o9
              try simp only [Act.put, List.setIfInBounds_toArray, List.set_cons_zero, List.set_cons_succ]
              have Obl := hid hb9
              have HD := hid (HD.out.only o9 HBL2.out.1); have HC := hid (HC.out.only o9 HBL2.out.2.1 HBL2.out.2.2.1); have OA := hid (OA.out.only o9 HBL2.out.2.2.2.1); have OX := hid (OX.out.only o9 HBL2.out.2.2.2.2.1); have QT := hid (QT.out.fresh o9 (fun i hi => .inr (by rw [List.mem_singleton.1 hi]; exact HBL2.out.2.2.2.2.2)))
              clear hb9 o9
              clear c0 c1 c2 c3 c4 c5
              skip
              skip
              obtain ⟨lm, hlm⟩ : ∃ lm : Lm, ({x.m with op := 2, id := s.id, c0 := a0, c1 := a1, c2 := a2, c3 := a3, c4 := a4, c5 := a5}) = lm := ⟨_, rfl⟩
              have Obl : Hid (Ob W9 bl 27 lm.cs) := hid (by rw [← hlm]; exact Obl.out)
              clear hlm
              go_wp2_with fail
              refine wp_region_noPanic ?_
              refine rgn.regionT (R := Only [m, g2]) (by kernel_rfl) (Only.refl [m, g2]) (fun _ _ _ => Only.trans) (fun _ _ _ _ _ h => h) (.y 0 (.y 1 (.y 2 (.y 3 (.y 4 (.y 6 (.y 7 (.y 8 (.y 9 (.y 10 (.e 5 (.e 11 (.e 12 (.e 13 .z)))))))))))))) (by kernel_rfl) (fun W hWd => ?_)
              have HWd := hid hWd; clear hWd
              have q8 : Only [] W9 W := Only.eq_drew (Only.refl [] _) HWd.out
              have HD := hid (HD.out.only q8 (by simp)); have HC := hid (HC.out.nil q8); have OA := hid (OA.out.only q8 (by simp)); have OX := hid (OX.out.only q8 (by simp)); have QT := hid (QT.out.trans q8)
              have Obl := hid (Obl.out.only q8 (by simp))
              clear q8 HWd
              refine rgn.Walk.ys (v := ?_) rfl rfl rfl ?_ ?_
              rotate_left 1
              · intro W' hW'
                go_simp
                try with_reducible rfl
              try simp only [Act.put, List.setIfInBounds_toArray, List.set_cons_zero, List.set_cons_succ]
              refine rgn.Walk.ys rfl rfl rfl (fun W' hW' => exec_lm _ _ rfl bl 0 rfl lm (r_all (Obl.out.only hW' HBL3.out)) Try.underlying27 rfl (by kernel_rfl)) ?_
              try simp only [Act.put, List.setIfInBounds_toArray, List.set_cons_zero, List.set_cons_succ]
              refine rgn.Walk.ys (v := ?_) rfl rfl rfl ?_ ?_
              rotate_left 1
              · intro W' hW'
                go_simp
                try with_reducible rfl
              try simp only [Act.put, List.setIfInBounds_toArray, List.set_cons_zero, List.set_cons_succ]
              refine rgn.Walk.ys (v := ?_) rfl rfl rfl ?_ ?_
              rotate_left 1
              · intro W' hW'
                go_simp
                try with_reducible rfl
              try simp only [Act.put, List.setIfInBounds_toArray, List.set_cons_zero, List.set_cons_succ]
              refine rgn.Walk.ys (v := ?_) rfl rfl rfl ?_ ?_
              rotate_left 1
              · intro W' hW'
                have q0 := s_dr (OX.out.only hW' HBX.out.1)
                go_simp
                try with_reducible rfl
              try simp only [Act.put, List.setIfInBounds_toArray, List.set_cons_zero, List.set_cons_succ]
              refine rgn.Walk.ys (v := ?_) rfl rfl rfl ?_ ?_
              rotate_left 1
              · intro W' hW'
                go_simp
                try with_reducible rfl
              try simp only [Act.put, List.setIfInBounds_toArray, List.set_cons_zero, List.set_cons_succ]
              refine rgn.Walk.ys rfl rfl rfl (fun W' hW' => exec_lm _ _ rfl bl 0 rfl lm (r_all (Obl.out.only hW' HBL3.out)) Try.underlying27 rfl (by kernel_rfl)) ?_
              try simp only [Act.put, List.setIfInBounds_toArray, List.set_cons_zero, List.set_cons_succ]
              refine rgn.Walk.ys (v := ?_) rfl rfl rfl ?_ ?_
              rotate_left 1
              · intro W' hW'
                go_simp
                try with_reducible rfl
              try simp only [Act.put, List.setIfInBounds_toArray, List.set_cons_zero, List.set_cons_succ]
              refine rgn.Walk.ys (v := ?_) rfl rfl rfl ?_ ?_
              rotate_left 1
              · intro W' hW'
                go_simp
                try with_reducible rfl
              try simp only [Act.put, List.setIfInBounds_toArray, List.set_cons_zero, List.set_cons_succ]
              refine rgn.Walk.ys (v := ?_) rfl rfl rfl ?_ ?_
              rotate_left 1
              · intro W' hW'
                have q0 := s_dr (OX.out.only hW' HBX.out.1)
                go_simp
                try with_reducible rfl
              try simp only [Act.put, List.setIfInBounds_toArray, List.set_cons_zero, List.set_cons_succ]
              refine rgn.Walk.es ?_
              refine rgn.stepE rfl rfl (fun K hK => ?_)
              have HG2 := hid HD.out.lt
              go_simp
              refine (hear1 _ g m s lm (z + d) x.dr HC.out HTK.out HOK.out).mono ?_
              intro x3 w3 hx3
              obtain ⟨A3, n3, c3, rfl, hl, hr, hf, hci, o3⟩ := HC.out.own hx3
              refine hK _ _ (o3.more (by simp)) ?_
              clear hK K
              try simp only [Act.put, List.setIfInBounds_toArray, List.set_cons_zero, List.set_cons_succ]
              have HL := hid hl; have HR := hid hr; have HF := hid hf; have HC := hid hci; have HD := hid (HD.out.only o3 (by have := HNE.out; simp; omega)); have OA := hid (OA.out.only o3 (by have := HNE.out; simp; omega)); have OX := hid (OX.out.only o3 (by have := HBX.out.1; simp at this ⊢; omega)); have QT := hid (QT.out.fresh o3 (fun i hi => .inr (by rw [List.mem_singleton.1 hi]; have := HNE.out; omega)))
              clear hl hr hf hci o3 hx3
              refine rgn.Walk.es ?_
              refine rgn.stepE rfl rfl (fun K hK => ?_)
              go_simp
              refine (docHear _ g2 s lm (z + d) x.dr HD.out HTK.out HOK.out).mono ?_
              rintro x4 w4 ⟨A4, n4, c4, rfl, hl, hr, hf, hdi, o4⟩
              refine hK _ _ (o4.more (by simp)) ?_
              clear hK K
              try simp only [Act.put, List.setIfInBounds_toArray, List.set_cons_zero, List.set_cons_succ]
              have hg := HD.out.lt
              have HRA := hid (HR.out.only o4 (fun b off e _ hm => by have h8 := HF.out b off e; rw [List.mem_singleton.1 hm] at h8; have := HG2.out; omega)); have HRB := hid hr; have HLB := hid hl; have HD := hid hdi; have HC := hid (HC.out.only o4 (by have := HNE.out; simp; omega) (by have := HNE.out; simp; omega)); have OA := hid (OA.out.only o4 (by have := HNE.out; simp; omega)); have OX := hid (OX.out.only o4 (by have := HBX.out.1; simp at this ⊢; omega)); have QT := hid (QT.out.fresh o4 (fun i hi => .inr (by rw [List.mem_singleton.1 hi]; have := HNE.out; omega)))
              clear hl hr hf hdi o4 hg
              refine rgn.Walk.es ?_
              refine rgn.stepE rfl rfl (fun K hK => ?_)
              have HL1 := hid (len_hear s lm (z + d) x.dr)
              have hnn := HL.out.symm.trans HLB.out
              subst hnn
              go_simp
              refine (rows1 _ A3 A4 n3 c3 c4 _ HRA.out HRB.out HL.out (by have h7 := HL1.out; have h8 := HL.out; omega)).mono ?_
              rintro x5 w5 ⟨rfl, o5⟩
              refine hK _ _ (o5.more (by simp)) ?_
              clear hK K
              try simp only [Act.put, List.setIfInBounds_toArray, List.set_cons_zero, List.set_cons_succ]
              have HD := hid (HD.out.only o5 (by simp)); have HC := hid (HC.out.nil o5); have OA := hid (OA.out.only o5 (by simp)); have OX := hid (OX.out.only o5 (by simp)); have QT := hid (QT.out.trans o5)
              clear o5
              refine rgn.Walk.es ?_
              refine rgn.stepE rfl rfl (fun K hK => ?_)
              go_simp
              refine hK _ _ ((Only.refl [m, g2]) _) ?_
              clear hK K
              try simp only [Act.put, List.setIfInBounds_toArray, List.set_cons_zero, List.set_cons_succ]
              refine rgn.Walk.zs (NoPanic.normal ?_)
              have HOK9 := hid (HOK.out.hear lm (z + d) x.dr HTK.out)
              obtain ⟨s9, hs9⟩ : ∃ s9, (s.hear lm (z + d) x.dr).1 = s9 := ⟨_, rfl⟩
              simp only [hs9] at HC HD HOK9
              clear hs9
              obtain ⟨r, hr⟩ : ∃ r, decide (3 ≤ s9.st) = r := ⟨_, rfl⟩
              have HRR := hid hr
              clear hr
              go_wp2_with fail
              refine (hasC1 _ g m s9 HC.out).mono ?_
              rintro x6 w6 ⟨rfl, q8⟩
              rw [HRR.out]
              have HD := hid (HD.out.only q8 (by simp)); have HC := hid (HC.out.nil q8); have OA := hid (OA.out.only q8 (by simp)); have OX := hid (OX.out.only q8 (by simp)); have QT := hid (QT.out.trans q8)
              clear q8
              obtain ⟨bp, hbp⟩ : ∃ bp, w6.heap.size = bp := ⟨_, rfl⟩
              obtain ⟨WB, hWB⟩ : ∃ WB, w6.alloc (.cells #[.int .i64 0, .int .u32 0, .int .u32 0, .int .u8 0, .int .u8 0, .int .u8 0, .int .u8 0, .int .u8 0, .int .u8 0, .int .i64 0, .int .u32 0, .int .u32 0, .int .i64 0, .int .u32 0, .int .u32 0, .int .u32 0] 27) = WB := ⟨_, rfl⟩
              have Obp : Hid (Ob WB bp 27 Lm.zero.cs) := hid (by rw [← hWB, ← hbp]; exact Ob.new _ _ _)
              have QA : Hid (Only [] w6 WB) := hid (by rw [← hWB]; exact (Only.refl [] w6).alloc _)
              have Hbp : Hid (w6.heap.size ≤ bp) := hid (by omega)
              go_wp2_with (first | (refine wp_put rfl _ _ _ rfl bp 0 rfl (.agg s9.had.cs) rfl Obp.out (by kernel_rfl) (show _ ≤ 16 from Nat.le_of_ble_eq_true rfl) (one_l _) (p_all Obp.out s9.had) ?_) | fail)
              intro W9 hb9 o9
              try simp only [Act.put, List.setIfInBounds_toArray, List.set_cons_zero, List.set_cons_succ]
              have Obp := hid hb9
              have HQ : Hid (Only [] w6 W9) := hid (QA.out.fresh o9 (fun i hi => .inr (by rw [List.mem_singleton.1 hi]; exact Hbp.out)))
              clear hb9 o9 hWB hbp
              have q8 := HQ.out
              have HD := hid (HD.out.only q8 (by simp)); have HC := hid (HC.out.nil q8); have OA := hid (OA.out.only q8 (by simp)); have OX := hid (OX.out.only q8 (by simp)); have QT := hid (QT.out.trans q8)
              clear q8
              go_wp2_with fail
              refine (docHas _ g2 s9 HD.out).mono ?_
              rintro x7 w7 ⟨rfl, q8⟩
              rw [HRR.out]
              have HD := hid (HD.out.only q8 (by simp)); have HC := hid (HC.out.nil q8); have OA := hid (OA.out.only q8 (by simp)); have OX := hid (OX.out.only q8 (by simp)); have QT := hid (QT.out.trans q8)
              have Obp := hid (Obp.out.only q8 (by simp))
              clear q8
              obtain ⟨bq, hbq⟩ : ∃ bq, w7.heap.size = bq := ⟨_, rfl⟩
              obtain ⟨WC, hWC⟩ : ∃ WC, w7.alloc (.cells #[.int .i64 0, .int .u32 0, .int .u32 0, .int .u8 0, .int .u8 0, .int .u8 0, .int .u8 0, .int .u8 0, .int .u8 0, .int .i64 0, .int .u32 0, .int .u32 0, .int .i64 0, .int .u32 0, .int .u32 0, .int .u32 0] 27) = WC := ⟨_, rfl⟩
              have Obq : Hid (Ob WC bq 27 Lm.zero.cs) := hid (by rw [← hWC, ← hbq]; exact Ob.new _ _ _)
              have QA : Hid (Only [] w7 WC) := hid (by rw [← hWC]; exact (Only.refl [] w7).alloc _)
              have Hbq : Hid (w7.heap.size ≤ bq) := hid (by omega)
              go_wp2_with (first | (refine wp_put rfl _ _ _ rfl bq 0 rfl (.agg s9.had.cs) rfl Obq.out (by kernel_rfl) (show _ ≤ 16 from Nat.le_of_ble_eq_true rfl) (one_l _) (p_all Obq.out s9.had) ?_) | fail)
              intro W9 hb9 o9
              try simp only [Act.put, List.setIfInBounds_toArray, List.set_cons_zero, List.set_cons_succ]
              have Obq := hid hb9
              have HQ : Hid (Only [] w7 W9) := hid (QA.out.fresh o9 (fun i hi => .inr (by rw [List.mem_singleton.1 hi]; exact Hbq.out)))
              clear hb9 o9 hWC hbq
              have q8 := HQ.out
              have HD := hid (HD.out.only q8 (by simp)); have HC := hid (HC.out.nil q8); have OA := hid (OA.out.only q8 (by simp)); have OX := hid (OX.out.only q8 (by simp)); have QT := hid (QT.out.trans q8)
              have Obp := hid (Obp.out.only q8 (by simp))
              clear q8
              go_wp2_with fail
              refine wp_region_noPanic ?_
              refine rgn.regionT (R := Only []) (by kernel_rfl) (Only.refl []) (fun _ _ _ => Only.trans) (fun _ _ _ _ _ h => h) (.y 0 (.y 1 (.y 2 (.y 3 (.y 4 (.y 5 (.y 6 (.y 7 (.y 8 (.y 9 (.y 10 (.y 11 (.y 12 (.y 13 (.y 15 (.y 16 (.y 17 (.y 18 (.e 14 (.y 19 (.y 20 .z))))))))))))))))))))) (by kernel_rfl) (fun W hWd => ?_)
              have HWd := hid hWd; clear hWd
              have q8 : Only [] W9 W := Only.eq_drew (Only.refl [] _) HWd.out
              have HD := hid (HD.out.only q8 (by simp)); have HC := hid (HC.out.nil q8); have OA := hid (OA.out.only q8 (by simp)); have OX := hid (OX.out.only q8 (by simp)); have QT := hid (QT.out.trans q8)
              have Obp := hid (Obp.out.only q8 (by simp)); have Obq := hid (Obq.out.only q8 (by simp))
              clear q8 HWd
              refine rgn.Walk.ys (v := ?_) rfl rfl rfl ?_ ?_
              rotate_left 1
              · intro W' hW'
                go_simp
                try with_reducible rfl
              try simp only [Act.put, List.setIfInBounds_toArray, List.set_cons_zero, List.set_cons_succ]
              refine rgn.Walk.ys (v := ?_) rfl rfl rfl ?_ ?_
              rotate_left 1
              · intro W' hW'
                go_simp
                try with_reducible rfl
              try simp only [Act.put, List.setIfInBounds_toArray, List.set_cons_zero, List.set_cons_succ]
              refine rgn.Walk.ys (v := ?_) rfl rfl rfl ?_ ?_
              rotate_left 1
              · intro W' hW'
                go_simp
                try with_reducible rfl
              try simp only [Act.put, List.setIfInBounds_toArray, List.set_cons_zero, List.set_cons_succ]
              refine rgn.Walk.ys rfl rfl rfl (fun W' hW' => exec_lm _ _ rfl bp 0 rfl s9.had (r_all (Obp.out.only hW' (by simp))) Try.underlying27 rfl (by kernel_rfl)) ?_
              try simp only [Act.put, List.setIfInBounds_toArray, List.set_cons_zero, List.set_cons_succ]
              refine rgn.Walk.ys rfl rfl rfl (fun W' hW' => exec_lm _ _ rfl bq 0 rfl s9.had (r_all (Obq.out.only hW' (by simp))) Try.underlying27 rfl (by kernel_rfl)) ?_
              try simp only [Act.put, List.setIfInBounds_toArray, List.set_cons_zero, List.set_cons_succ]
              refine rgn.Walk.ys rfl rfl rfl (fun W' hW' => exec_ne _ _ _ rfl s9.had rfl rfl) ?_
              try simp only [Act.put, List.setIfInBounds_toArray, List.set_cons_zero, List.set_cons_succ]
              refine rgn.Walk.ys (v := ?_) rfl rfl rfl ?_ ?_
              rotate_left 1
              · intro W' hW'
                go_simp
                try with_reducible rfl
              try simp only [Act.put, List.setIfInBounds_toArray, List.set_cons_zero, List.set_cons_succ]
              refine rgn.Walk.ys (v := ?_) rfl rfl rfl ?_ ?_
              rotate_left 1
              · intro W' hW'
                go_simp
                try with_reducible rfl
              try simp only [Act.put, List.setIfInBounds_toArray, List.set_cons_zero, List.set_cons_succ]
              refine rgn.Walk.ys (v := ?_) rfl rfl rfl ?_ ?_
              rotate_left 1
              · intro W' hW'
                go_simp
                try with_reducible rfl
              try simp only [Act.put, List.setIfInBounds_toArray, List.set_cons_zero, List.set_cons_succ]
              refine rgn.Walk.ys (v := ?_) rfl rfl rfl ?_ ?_
              rotate_left 1
              · intro W' hW'
                go_simp
                try with_reducible rfl
              try simp only [Act.put, List.setIfInBounds_toArray, List.set_cons_zero, List.set_cons_succ]
              refine rgn.Walk.ys (v := ?_) rfl rfl rfl ?_ ?_
              rotate_left 1
              · intro W' hW'
                go_simp
                try with_reducible rfl
              try simp only [Act.put, List.setIfInBounds_toArray, List.set_cons_zero, List.set_cons_succ]
              refine rgn.Walk.ys (v := ?_) rfl rfl rfl ?_ ?_
              rotate_left 1
              · intro W' hW'
                go_simp
                try with_reducible rfl
              try simp only [Act.put, List.setIfInBounds_toArray, List.set_cons_zero, List.set_cons_succ]
              refine rgn.Walk.ys (v := ?_) rfl rfl rfl ?_ ?_
              rotate_left 1
              · intro W' hW'
                go_simp
                try with_reducible rfl
              try simp only [Act.put, List.setIfInBounds_toArray, List.set_cons_zero, List.set_cons_succ]
              refine rgn.Walk.ys (v := ?_) rfl rfl rfl ?_ ?_
              rotate_left 1
              · intro W' hW'
                go_simp
                try with_reducible rfl
              try simp only [Act.put, List.setIfInBounds_toArray, List.set_cons_zero, List.set_cons_succ]
              refine rgn.Walk.ys (v := ?_) rfl rfl rfl ?_ ?_
              rotate_left 1
              · intro W' hW'
                go_simp
                try with_reducible rfl
              try simp only [Act.put, List.setIfInBounds_toArray, List.set_cons_zero, List.set_cons_succ]
              refine rgn.Walk.ys (v := ?_) rfl rfl rfl ?_ ?_
              rotate_left 1
              · intro W' hW'
                go_simp
                try with_reducible rfl
              try simp only [Act.put, List.setIfInBounds_toArray, List.set_cons_zero, List.set_cons_succ]
              refine rgn.Walk.ys (v := ?_) rfl rfl rfl ?_ ?_
              rotate_left 1
              · intro W' hW'
                go_simp
                try with_reducible rfl
              try simp only [Act.put, List.setIfInBounds_toArray, List.set_cons_zero, List.set_cons_succ]
              refine rgn.Walk.ys (v := ?_) rfl rfl rfl ?_ ?_
              rotate_left 1
              · intro W' hW'
                have q0 := (HD.out.only hW' (by simp)).st
                go_simp
                try with_reducible rfl
              try simp only [Act.put, List.setIfInBounds_toArray, List.set_cons_zero, List.set_cons_succ]
              refine rgn.Walk.es ?_
              refine rgn.stepE rfl rfl (fun K hK => ?_)
              go_simp
              refine (state1 _ g m s9 HC.out).mono ?_
              rintro x8 w8 ⟨rfl, rfl⟩
              refine hK _ _ (Only.refl _ _) ?_
              clear hK K
              try simp only [Act.put, List.setIfInBounds_toArray, List.set_cons_zero, List.set_cons_succ]
              refine rgn.Walk.ys (v := ?_) rfl rfl rfl ?_ ?_
              rotate_left 1
              · intro W' hW'
                go_simp
                try with_reducible rfl
              try simp only [Act.put, List.setIfInBounds_toArray, List.set_cons_zero, List.set_cons_succ]
              refine rgn.Walk.ys (v := ?_) rfl rfl rfl ?_ ?_
              rotate_left 1
              · intro W' hW'
                go_simp
                try with_reducible rfl
              try simp only [Act.put, List.setIfInBounds_toArray, List.set_cons_zero, List.set_cons_succ]
              refine rgn.Walk.zs (NoPanic.normal ?_)
              go_wp2_with fail
              go_roundw
              case rel => exact ⟨k + 1, z + d, s9, by omega, by first | rfl | go_num, rfl, HZ2, HOK9, HC, HD, OA, QT⟩
              case measure => simp [RowKit.intOf]; omega
            | false =>
              have HOW := hid ho
              have e19 := s_own OX.out
              rw [ho] at e19
              clear ho
              obtain ⟨bl, hbl⟩ : ∃ bl, WS.heap.size = bl := ⟨_, rfl⟩
              obtain ⟨WB, hWB⟩ : ∃ WB, WS.alloc (.cells #[.int .i64 0, .int .u32 0, .int .u32 0, .int .u8 0, .int .u8 0, .int .u8 0, .int .u8 0, .int .u8 0, .int .u8 0, .int .i64 0, .int .u32 0, .int .u32 0, .int .i64 0, .int .u32 0, .int .u32 0, .int .u32 0] 27) = WB := ⟨_, rfl⟩
              have Obl : Hid (Ob WB bl 27 Lm.zero.cs) := hid (by rw [← hWB, ← hbl]; exact Ob.new _ _ _)
              have QA : Hid (Only [] WS WB) := hid (by rw [← hWB]; exact (Only.refl [] WS).alloc _)
              have Hbl : Hid (WS.heap.size ≤ bl) := hid (by omega); have HBL3 : Hid (bl ∉ [m, g2]) := hid (by have h1 := HD.out.lt; have h3 := HC.out.ob.lt; simp only [List.mem_cons, List.not_mem_nil, or_false]; omega)
              go_wp2_with (first | (refine wp_lm rfl 27 _ rfl bx 3 rfl x.m (r_sm OX.out) Try.underlying27 rfl (by kernel_rfl) ?_; try simp only [Act.put, List.setIfInBounds_toArray, List.set_cons_zero, List.set_cons_succ]) | (refine wp_put rfl _ _ _ rfl bl 0 rfl (.agg x.m.cs) rfl Obl.out (by kernel_rfl) (show _ ≤ 16 from Nat.le_of_ble_eq_true rfl) (one_l _) (p_all Obl.out x.m) ?_) | fail)
              intro W9 hb9 o9
              try simp only [Act.put, List.setIfInBounds_toArray, List.set_cons_zero, List.set_cons_succ]
              have Obl := hid hb9
              have HQ : Hid (Only [] WS W9) := hid (QA.out.fresh o9 (fun i hi => .inr (by rw [List.mem_singleton.1 hi]; exact Hbl.out)))
              clear hb9 o9 hWB hbl
              have q8 := HQ.out
              have HD := hid (HD.out.only q8 (by simp)); have HC := hid (HC.out.nil q8); have OA := hid (OA.out.only q8 (by simp)); have OX := hid (OX.out.only q8 (by simp)); have QT := hid (QT.out.trans q8)
              clear q8 e0 e1 e19
              have e19 := s_own OX.out
              rw [HOW.out] at e19
              skip
              skip
              obtain ⟨lm, hlm⟩ : ∃ lm : Lm, x.m = lm := ⟨_, rfl⟩
              have Obl : Hid (Ob W9 bl 27 lm.cs) := hid (by rw [← hlm]; exact Obl.out)
              clear hlm
              go_wp2_with fail
              refine wp_region_noPanic ?_
              refine rgn.regionT (R := Only [m, g2]) (by kernel_rfl) (Only.refl [m, g2]) (fun _ _ _ => Only.trans) (fun _ _ _ _ _ h => h) (.y 0 (.y 1 (.y 2 (.y 3 (.y 4 (.y 6 (.y 7 (.y 8 (.y 9 (.y 10 (.e 5 (.e 11 (.e 12 (.e 13 .z)))))))))))))) (by kernel_rfl) (fun W hWd => ?_)
              have HWd := hid hWd; clear hWd
              have q8 : Only [] W9 W := Only.eq_drew (Only.refl [] _) HWd.out
              have HD := hid (HD.out.only q8 (by simp)); have HC := hid (HC.out.nil q8); have OA := hid (OA.out.only q8 (by simp)); have OX := hid (OX.out.only q8 (by simp)); have QT := hid (QT.out.trans q8)
              have Obl := hid (Obl.out.only q8 (by simp))
              clear q8 HWd
              refine rgn.Walk.ys (v := ?_) rfl rfl rfl ?_ ?_
              rotate_left 1
              · intro W' hW'
                go_simp
                try with_reducible rfl
              try simp only [Act.put, List.setIfInBounds_toArray, List.set_cons_zero, List.set_cons_succ]
              refine rgn.Walk.ys rfl rfl rfl (fun W' hW' => exec_lm _ _ rfl bl 0 rfl lm (r_all (Obl.out.only hW' HBL3.out)) Try.underlying27 rfl (by kernel_rfl)) ?_
              try simp only [Act.put, List.setIfInBounds_toArray, List.set_cons_zero, List.set_cons_succ]
              refine rgn.Walk.ys (v := ?_) rfl rfl rfl ?_ ?_
              rotate_left 1
              · intro W' hW'
                go_simp
                try with_reducible rfl
              try simp only [Act.put, List.setIfInBounds_toArray, List.set_cons_zero, List.set_cons_succ]
              refine rgn.Walk.ys (v := ?_) rfl rfl rfl ?_ ?_
              rotate_left 1
              · intro W' hW'
                go_simp
                try with_reducible rfl
              try simp only [Act.put, List.setIfInBounds_toArray, List.set_cons_zero, List.set_cons_succ]
              refine rgn.Walk.ys (v := ?_) rfl rfl rfl ?_ ?_
              rotate_left 1
              · intro W' hW'
                have q0 := s_dr (OX.out.only hW' HBX.out.1)
                go_simp
                try with_reducible rfl
              try simp only [Act.put, List.setIfInBounds_toArray, List.set_cons_zero, List.set_cons_succ]
              refine rgn.Walk.ys (v := ?_) rfl rfl rfl ?_ ?_
              rotate_left 1
              · intro W' hW'
                go_simp
                try with_reducible rfl
              try simp only [Act.put, List.setIfInBounds_toArray, List.set_cons_zero, List.set_cons_succ]
              refine rgn.Walk.ys rfl rfl rfl (fun W' hW' => exec_lm _ _ rfl bl 0 rfl lm (r_all (Obl.out.only hW' HBL3.out)) Try.underlying27 rfl (by kernel_rfl)) ?_
              try simp only [Act.put, List.setIfInBounds_toArray, List.set_cons_zero, List.set_cons_succ]
              refine rgn.Walk.ys (v := ?_) rfl rfl rfl ?_ ?_
              rotate_left 1
              · intro W' hW'
                go_simp
                try with_reducible rfl
              try simp only [Act.put, List.setIfInBounds_toArray, List.set_cons_zero, List.set_cons_succ]
              refine rgn.Walk.ys (v := ?_) rfl rfl rfl ?_ ?_
              rotate_left 1
              · intro W' hW'
                go_simp
                try with_reducible rfl
              try simp only [Act.put, List.setIfInBounds_toArray, List.set_cons_zero, List.set_cons_succ]
              refine rgn.Walk.ys (v := ?_) rfl rfl rfl ?_ ?_
              rotate_left 1
              · intro W' hW'
                have q0 := s_dr (OX.out.only hW' HBX.out.1)
                go_simp
                try with_reducible rfl
              try simp only [Act.put, List.setIfInBounds_toArray, List.set_cons_zero, List.set_cons_succ]
              refine rgn.Walk.es ?_
              refine rgn.stepE rfl rfl (fun K hK => ?_)
              have HG2 := hid HD.out.lt
              go_simp
              refine (hear1 _ g m s lm (z + d) x.dr HC.out HTK.out HOK.out).mono ?_
              intro x3 w3 hx3
              obtain ⟨A3, n3, c3, rfl, hl, hr, hf, hci, o3⟩ := HC.out.own hx3
              refine hK _ _ (o3.more (by simp)) ?_
              clear hK K
              try simp only [Act.put, List.setIfInBounds_toArray, List.set_cons_zero, List.set_cons_succ]
              have HL := hid hl; have HR := hid hr; have HF := hid hf; have HC := hid hci; have HD := hid (HD.out.only o3 (by have := HNE.out; simp; omega)); have OA := hid (OA.out.only o3 (by have := HNE.out; simp; omega)); have OX := hid (OX.out.only o3 (by have := HBX.out.1; simp at this ⊢; omega)); have QT := hid (QT.out.fresh o3 (fun i hi => .inr (by rw [List.mem_singleton.1 hi]; have := HNE.out; omega)))
              clear hl hr hf hci o3 hx3
              refine rgn.Walk.es ?_
              refine rgn.stepE rfl rfl (fun K hK => ?_)
              go_simp
              refine (docHear _ g2 s lm (z + d) x.dr HD.out HTK.out HOK.out).mono ?_
              rintro x4 w4 ⟨A4, n4, c4, rfl, hl, hr, hf, hdi, o4⟩
              refine hK _ _ (o4.more (by simp)) ?_
              clear hK K
              try simp only [Act.put, List.setIfInBounds_toArray, List.set_cons_zero, List.set_cons_succ]
              have hg := HD.out.lt
              have HRA := hid (HR.out.only o4 (fun b off e _ hm => by have h8 := HF.out b off e; rw [List.mem_singleton.1 hm] at h8; have := HG2.out; omega)); have HRB := hid hr; have HLB := hid hl; have HD := hid hdi; have HC := hid (HC.out.only o4 (by have := HNE.out; simp; omega) (by have := HNE.out; simp; omega)); have OA := hid (OA.out.only o4 (by have := HNE.out; simp; omega)); have OX := hid (OX.out.only o4 (by have := HBX.out.1; simp at this ⊢; omega)); have QT := hid (QT.out.fresh o4 (fun i hi => .inr (by rw [List.mem_singleton.1 hi]; have := HNE.out; omega)))
              clear hl hr hf hdi o4 hg
              refine rgn.Walk.es ?_
              refine rgn.stepE rfl rfl (fun K hK => ?_)
              have HL1 := hid (len_hear s lm (z + d) x.dr)
              have hnn := HL.out.symm.trans HLB.out
              subst hnn
              go_simp
              refine (rows1 _ A3 A4 n3 c3 c4 _ HRA.out HRB.out HL.out (by have h7 := HL1.out; have h8 := HL.out; omega)).mono ?_
              rintro x5 w5 ⟨rfl, o5⟩
              refine hK _ _ (o5.more (by simp)) ?_
              clear hK K
              try simp only [Act.put, List.setIfInBounds_toArray, List.set_cons_zero, List.set_cons_succ]
              have HD := hid (HD.out.only o5 (by simp)); have HC := hid (HC.out.nil o5); have OA := hid (OA.out.only o5 (by simp)); have OX := hid (OX.out.only o5 (by simp)); have QT := hid (QT.out.trans o5)
              clear o5
              refine rgn.Walk.es ?_
              refine rgn.stepE rfl rfl (fun K hK => ?_)
              go_simp
              refine hK _ _ ((Only.refl [m, g2]) _) ?_
              clear hK K
              try simp only [Act.put, List.setIfInBounds_toArray, List.set_cons_zero, List.set_cons_succ]
              refine rgn.Walk.zs (NoPanic.normal ?_)
              have HOK9 := hid (HOK.out.hear lm (z + d) x.dr HTK.out)
              obtain ⟨s9, hs9⟩ : ∃ s9, (s.hear lm (z + d) x.dr).1 = s9 := ⟨_, rfl⟩
              simp only [hs9] at HC HD HOK9
              clear hs9
              obtain ⟨r, hr⟩ : ∃ r, decide (3 ≤ s9.st) = r := ⟨_, rfl⟩
              have HRR := hid hr
              clear hr
              go_wp2_with fail
              refine (hasC1 _ g m s9 HC.out).mono ?_
              rintro x6 w6 ⟨rfl, q8⟩
              rw [HRR.out]
              have HD := hid (HD.out.only q8 (by simp)); have HC := hid (HC.out.nil q8); have OA := hid (OA.out.only q8 (by simp)); have OX := hid (OX.out.only q8 (by simp)); have QT := hid (QT.out.trans q8)
              clear q8
              obtain ⟨bp, hbp⟩ : ∃ bp, w6.heap.size = bp := ⟨_, rfl⟩
              obtain ⟨WB, hWB⟩ : ∃ WB, w6.alloc (.cells #[.int .i64 0, .int .u32 0, .int .u32 0, .int .u8 0, .int .u8 0, .int .u8 0, .int .u8 0, .int .u8 0, .int .u8 0, .int .i64 0, .int .u32 0, .int .u32 0, .int .i64 0, .int .u32 0, .int .u32 0, .int .u32 0] 27) = WB := ⟨_, rfl⟩
              have Obp : Hid (Ob WB bp 27 Lm.zero.cs) := hid (by rw [← hWB, ← hbp]; exact Ob.new _ _ _)
              have QA : Hid (Only [] w6 WB) := hid (by rw [← hWB]; exact (Only.refl [] w6).alloc _)
              have Hbp : Hid (w6.heap.size ≤ bp) := hid (by omega)
              go_wp2_with (first | (refine wp_put rfl _ _ _ rfl bp 0 rfl (.agg s9.had.cs) rfl Obp.out (by kernel_rfl) (show _ ≤ 16 from Nat.le_of_ble_eq_true rfl) (one_l _) (p_all Obp.out s9.had) ?_) | fail)
              intro W9 hb9 o9
              try simp only [Act.put, List.setIfInBounds_toArray, List.set_cons_zero, List.set_cons_succ]
              have Obp := hid hb9
              have HQ : Hid (Only [] w6 W9) := hid (QA.out.fresh o9 (fun i hi => .inr (by rw [List.mem_singleton.1 hi]; exact Hbp.out)))
              clear hb9 o9 hWB hbp
              have q8 := HQ.out
              have HD := hid (HD.out.only q8 (by simp)); have HC := hid (HC.out.nil q8); have OA := hid (OA.out.only q8 (by simp)); have OX := hid (OX.out.only q8 (by simp)); have QT := hid (QT.out.trans q8)
              clear q8
              go_wp2_with fail
              refine (docHas _ g2 s9 HD.out).mono ?_
              rintro x7 w7 ⟨rfl, q8⟩
              rw [HRR.out]
              have HD := hid (HD.out.only q8 (by simp)); have HC := hid (HC.out.nil q8); have OA := hid (OA.out.only q8 (by simp)); have OX := hid (OX.out.only q8 (by simp)); have QT := hid (QT.out.trans q8)
              have Obp := hid (Obp.out.only q8 (by simp))
              clear q8
              obtain ⟨bq, hbq⟩ : ∃ bq, w7.heap.size = bq := ⟨_, rfl⟩
              obtain ⟨WC, hWC⟩ : ∃ WC, w7.alloc (.cells #[.int .i64 0, .int .u32 0, .int .u32 0, .int .u8 0, .int .u8 0, .int .u8 0, .int .u8 0, .int .u8 0, .int .u8 0, .int .i64 0, .int .u32 0, .int .u32 0, .int .i64 0, .int .u32 0, .int .u32 0, .int .u32 0] 27) = WC := ⟨_, rfl⟩
              have Obq : Hid (Ob WC bq 27 Lm.zero.cs) := hid (by rw [← hWC, ← hbq]; exact Ob.new _ _ _)
              have QA : Hid (Only [] w7 WC) := hid (by rw [← hWC]; exact (Only.refl [] w7).alloc _)
              have Hbq : Hid (w7.heap.size ≤ bq) := hid (by omega)
              go_wp2_with (first | (refine wp_put rfl _ _ _ rfl bq 0 rfl (.agg s9.had.cs) rfl Obq.out (by kernel_rfl) (show _ ≤ 16 from Nat.le_of_ble_eq_true rfl) (one_l _) (p_all Obq.out s9.had) ?_) | fail)
              intro W9 hb9 o9
              try simp only [Act.put, List.setIfInBounds_toArray, List.set_cons_zero, List.set_cons_succ]
              have Obq := hid hb9
              have HQ : Hid (Only [] w7 W9) := hid (QA.out.fresh o9 (fun i hi => .inr (by rw [List.mem_singleton.1 hi]; exact Hbq.out)))
              clear hb9 o9 hWC hbq
              have q8 := HQ.out
              have HD := hid (HD.out.only q8 (by simp)); have HC := hid (HC.out.nil q8); have OA := hid (OA.out.only q8 (by simp)); have OX := hid (OX.out.only q8 (by simp)); have QT := hid (QT.out.trans q8)
              have Obp := hid (Obp.out.only q8 (by simp))
              clear q8
              go_wp2_with fail
              refine wp_region_noPanic ?_
              refine rgn.regionT (R := Only []) (by kernel_rfl) (Only.refl []) (fun _ _ _ => Only.trans) (fun _ _ _ _ _ h => h) (.y 0 (.y 1 (.y 2 (.y 3 (.y 4 (.y 5 (.y 6 (.y 7 (.y 8 (.y 9 (.y 10 (.y 11 (.y 12 (.y 13 (.y 15 (.y 16 (.y 17 (.y 18 (.e 14 (.y 19 (.y 20 .z))))))))))))))))))))) (by kernel_rfl) (fun W hWd => ?_)
              have HWd := hid hWd; clear hWd
              have q8 : Only [] W9 W := Only.eq_drew (Only.refl [] _) HWd.out
              have HD := hid (HD.out.only q8 (by simp)); have HC := hid (HC.out.nil q8); have OA := hid (OA.out.only q8 (by simp)); have OX := hid (OX.out.only q8 (by simp)); have QT := hid (QT.out.trans q8)
              have Obp := hid (Obp.out.only q8 (by simp)); have Obq := hid (Obq.out.only q8 (by simp))
              clear q8 HWd
              refine rgn.Walk.ys (v := ?_) rfl rfl rfl ?_ ?_
              rotate_left 1
              · intro W' hW'
                go_simp
                try with_reducible rfl
              try simp only [Act.put, List.setIfInBounds_toArray, List.set_cons_zero, List.set_cons_succ]
              refine rgn.Walk.ys (v := ?_) rfl rfl rfl ?_ ?_
              rotate_left 1
              · intro W' hW'
                go_simp
                try with_reducible rfl
              try simp only [Act.put, List.setIfInBounds_toArray, List.set_cons_zero, List.set_cons_succ]
              refine rgn.Walk.ys (v := ?_) rfl rfl rfl ?_ ?_
              rotate_left 1
              · intro W' hW'
                go_simp
                try with_reducible rfl
              try simp only [Act.put, List.setIfInBounds_toArray, List.set_cons_zero, List.set_cons_succ]
              refine rgn.Walk.ys rfl rfl rfl (fun W' hW' => exec_lm _ _ rfl bp 0 rfl s9.had (r_all (Obp.out.only hW' (by simp))) Try.underlying27 rfl (by kernel_rfl)) ?_
              try simp only [Act.put, List.setIfInBounds_toArray, List.set_cons_zero, List.set_cons_succ]
              refine rgn.Walk.ys rfl rfl rfl (fun W' hW' => exec_lm _ _ rfl bq 0 rfl s9.had (r_all (Obq.out.only hW' (by simp))) Try.underlying27 rfl (by kernel_rfl)) ?_
              try simp only [Act.put, List.setIfInBounds_toArray, List.set_cons_zero, List.set_cons_succ]
              refine rgn.Walk.ys rfl rfl rfl (fun W' hW' => exec_ne _ _ _ rfl s9.had rfl rfl) ?_
              try simp only [Act.put, List.setIfInBounds_toArray, List.set_cons_zero, List.set_cons_succ]
              refine rgn.Walk.ys (v := ?_) rfl rfl rfl ?_ ?_
              rotate_left 1
              · intro W' hW'
                go_simp
                try with_reducible rfl
              try simp only [Act.put, List.setIfInBounds_toArray, List.set_cons_zero, List.set_cons_succ]
              refine rgn.Walk.ys (v := ?_) rfl rfl rfl ?_ ?_
              rotate_left 1
              · intro W' hW'
                go_simp
                try with_reducible rfl
              try simp only [Act.put, List.setIfInBounds_toArray, List.set_cons_zero, List.set_cons_succ]
              refine rgn.Walk.ys (v := ?_) rfl rfl rfl ?_ ?_
              rotate_left 1
              · intro W' hW'
                go_simp
                try with_reducible rfl
              try simp only [Act.put, List.setIfInBounds_toArray, List.set_cons_zero, List.set_cons_succ]
              refine rgn.Walk.ys (v := ?_) rfl rfl rfl ?_ ?_
              rotate_left 1
              · intro W' hW'
                go_simp
                try with_reducible rfl
              try simp only [Act.put, List.setIfInBounds_toArray, List.set_cons_zero, List.set_cons_succ]
              refine rgn.Walk.ys (v := ?_) rfl rfl rfl ?_ ?_
              rotate_left 1
              · intro W' hW'
                go_simp
                try with_reducible rfl
              try simp only [Act.put, List.setIfInBounds_toArray, List.set_cons_zero, List.set_cons_succ]
              refine rgn.Walk.ys (v := ?_) rfl rfl rfl ?_ ?_
              rotate_left 1
              · intro W' hW'
                go_simp
                try with_reducible rfl
              try simp only [Act.put, List.setIfInBounds_toArray, List.set_cons_zero, List.set_cons_succ]
              refine rgn.Walk.ys (v := ?_) rfl rfl rfl ?_ ?_
              rotate_left 1
              · intro W' hW'
                go_simp
                try with_reducible rfl
              try simp only [Act.put, List.setIfInBounds_toArray, List.set_cons_zero, List.set_cons_succ]
              refine rgn.Walk.ys (v := ?_) rfl rfl rfl ?_ ?_
              rotate_left 1
              · intro W' hW'
                go_simp
                try with_reducible rfl
              try simp only [Act.put, List.setIfInBounds_toArray, List.set_cons_zero, List.set_cons_succ]
              refine rgn.Walk.ys (v := ?_) rfl rfl rfl ?_ ?_
              rotate_left 1
              · intro W' hW'
                go_simp
                try with_reducible rfl
              try simp only [Act.put, List.setIfInBounds_toArray, List.set_cons_zero, List.set_cons_succ]
              refine rgn.Walk.ys (v := ?_) rfl rfl rfl ?_ ?_
              rotate_left 1
              · intro W' hW'
                go_simp
                try with_reducible rfl
              try simp only [Act.put, List.setIfInBounds_toArray, List.set_cons_zero, List.set_cons_succ]
              refine rgn.Walk.ys (v := ?_) rfl rfl rfl ?_ ?_
              rotate_left 1
              · intro W' hW'
                go_simp
                try with_reducible rfl
              try simp only [Act.put, List.setIfInBounds_toArray, List.set_cons_zero, List.set_cons_succ]
              refine rgn.Walk.ys (v := ?_) rfl rfl rfl ?_ ?_
              rotate_left 1
              · intro W' hW'
                have q0 := (HD.out.only hW' (by simp)).st
                go_simp
                try with_reducible rfl
              try simp only [Act.put, List.setIfInBounds_toArray, List.set_cons_zero, List.set_cons_succ]
              refine rgn.Walk.es ?_
              refine rgn.stepE rfl rfl (fun K hK => ?_)
              go_simp
              refine (state1 _ g m s9 HC.out).mono ?_
              rintro x8 w8 ⟨rfl, rfl⟩
              refine hK _ _ (Only.refl _ _) ?_
              clear hK K
              try simp only [Act.put, List.setIfInBounds_toArray, List.set_cons_zero, List.set_cons_succ]
              refine rgn.Walk.ys (v := ?_) rfl rfl rfl ?_ ?_
              rotate_left 1
              · intro W' hW'
                go_simp
                try with_reducible rfl
              try simp only [Act.put, List.setIfInBounds_toArray, List.set_cons_zero, List.set_cons_succ]
              refine rgn.Walk.ys (v := ?_) rfl rfl rfl ?_ ?_
              rotate_left 1
              · intro W' hW'
                go_simp
                try with_reducible rfl
              try simp only [Act.put, List.setIfInBounds_toArray, List.set_cons_zero, List.set_cons_succ]
              refine rgn.Walk.zs (NoPanic.normal ?_)
              go_wp2_with fail
              go_roundw
              case rel => exact ⟨k + 1, z + d, s9, by omega, by first | rfl | go_num, rfl, HZ2, HOK9, HC, HD, OA, QT⟩
              case measure => simp [RowKit.intOf]; omega
          · by_cases k3 : x.k = 3
            · have f1 : (x.k == 1) = false := by simp [k1]
              have f2 : (x.k == 2) = false := by simp [k2]
              have f3 : (x.k == 3) = true := by simp [k3]
              clear k1 k2 k3
              go_wp2_with fail
              refine wp_region_noPanic ?_
              refine rgn.regionT (R := Only [m, g2]) (by kernel_rfl) (Only.refl [m, g2]) (fun _ _ _ => Only.trans) (fun _ _ _ _ _ h => h) (.y 0 (.y 1 (.y 2 (.y 3 (.y 5 (.y 6 (.y 7 (.y 8 (.e 4 (.e 9 (.e 10 (.e 11 .z)))))))))))) (by kernel_rfl) (fun W hWd => ?_)
              have HWd := hid hWd; clear hWd
              have q8 : Only [] WS W := Only.eq_drew (Only.refl [] _) HWd.out
              have HD := hid (HD.out.only q8 (by simp)); have HC := hid (HC.out.nil q8); have OA := hid (OA.out.only q8 (by simp)); have OX := hid (OX.out.only q8 (by simp)); have QT := hid (QT.out.trans q8)
              clear q8 HWd e0 e1
              refine rgn.Walk.ys (v := ?_) rfl rfl rfl ?_ ?_
              rotate_left 1
              · intro W' hW'
                go_simp
                try with_reducible rfl
              try simp only [Act.put, List.setIfInBounds_toArray, List.set_cons_zero, List.set_cons_succ]
              refine rgn.Walk.ys (v := ?_) rfl rfl rfl ?_ ?_
              rotate_left 1
              · intro W' hW'
                go_simp
                try with_reducible rfl
              try simp only [Act.put, List.setIfInBounds_toArray, List.set_cons_zero, List.set_cons_succ]
              refine rgn.Walk.ys (v := ?_) rfl rfl rfl ?_ ?_
              rotate_left 1
              · intro W' hW'
                go_simp
                try with_reducible rfl
              try simp only [Act.put, List.setIfInBounds_toArray, List.set_cons_zero, List.set_cons_succ]
              refine rgn.Walk.ys (v := ?_) rfl rfl rfl ?_ ?_
              rotate_left 1
              · intro W' hW'
                have q0 := s_dr (OX.out.only hW' HBX.out.1)
                go_simp
                try with_reducible rfl
              try simp only [Act.put, List.setIfInBounds_toArray, List.set_cons_zero, List.set_cons_succ]
              refine rgn.Walk.ys (v := ?_) rfl rfl rfl ?_ ?_
              rotate_left 1
              · intro W' hW'
                go_simp
                try with_reducible rfl
              try simp only [Act.put, List.setIfInBounds_toArray, List.set_cons_zero, List.set_cons_succ]
              refine rgn.Walk.ys (v := ?_) rfl rfl rfl ?_ ?_
              rotate_left 1
              · intro W' hW'
                go_simp
                try with_reducible rfl
              try simp only [Act.put, List.setIfInBounds_toArray, List.set_cons_zero, List.set_cons_succ]
              refine rgn.Walk.ys (v := ?_) rfl rfl rfl ?_ ?_
              rotate_left 1
              · intro W' hW'
                go_simp
                try with_reducible rfl
              try simp only [Act.put, List.setIfInBounds_toArray, List.set_cons_zero, List.set_cons_succ]
              refine rgn.Walk.ys (v := ?_) rfl rfl rfl ?_ ?_
              rotate_left 1
              · intro W' hW'
                have q0 := s_dr (OX.out.only hW' HBX.out.1)
                go_simp
                try with_reducible rfl
              try simp only [Act.put, List.setIfInBounds_toArray, List.set_cons_zero, List.set_cons_succ]
              refine rgn.Walk.es ?_
              refine rgn.stepE rfl rfl (fun K hK => ?_)
              have HG2 := hid HD.out.lt
              go_simp
              refine (tick1 _ g m s (z + d) x.dr HC.out HTK.out HOK.out).mono ?_
              intro x3 w3 hx3
              obtain ⟨A3, n3, c3, rfl, hl, hr, hf, hci, o3⟩ := HC.out.own hx3
              refine hK _ _ (o3.more (by simp)) ?_
              clear hK K
              try simp only [Act.put, List.setIfInBounds_toArray, List.set_cons_zero, List.set_cons_succ]
              have HL := hid hl; have HR := hid hr; have HF := hid hf; have HC := hid hci; have HD := hid (HD.out.only o3 (by have := HNE.out; simp; omega)); have OA := hid (OA.out.only o3 (by have := HNE.out; simp; omega)); have OX := hid (OX.out.only o3 (by have := HBX.out.1; simp at this ⊢; omega)); have QT := hid (QT.out.fresh o3 (fun i hi => .inr (by rw [List.mem_singleton.1 hi]; have := HNE.out; omega)))
              clear hl hr hf hci o3 hx3
              refine rgn.Walk.es ?_
              refine rgn.stepE rfl rfl (fun K hK => ?_)
              go_simp
              refine (docTick _ g2 s (z + d) x.dr HD.out HTK.out HOK.out).mono ?_
              rintro x4 w4 ⟨A4, n4, c4, rfl, hl, hr, hf, hdi, o4⟩
              refine hK _ _ (o4.more (by simp)) ?_
              clear hK K
              try simp only [Act.put, List.setIfInBounds_toArray, List.set_cons_zero, List.set_cons_succ]
              have hg := HD.out.lt
              have HRA := hid (HR.out.only o4 (fun b off e _ hm => by have h8 := HF.out b off e; rw [List.mem_singleton.1 hm] at h8; have := HG2.out; omega)); have HRB := hid hr; have HLB := hid hl; have HD := hid hdi; have HC := hid (HC.out.only o4 (by have := HNE.out; simp; omega) (by have := HNE.out; simp; omega)); have OA := hid (OA.out.only o4 (by have := HNE.out; simp; omega)); have OX := hid (OX.out.only o4 (by have := HBX.out.1; simp at this ⊢; omega)); have QT := hid (QT.out.fresh o4 (fun i hi => .inr (by rw [List.mem_singleton.1 hi]; have := HNE.out; omega)))
              clear hl hr hf hdi o4 hg
              refine rgn.Walk.es ?_
              refine rgn.stepE rfl rfl (fun K hK => ?_)
              have HL1 := hid (len_tick s (z + d) x.dr)
              have hnn := HL.out.symm.trans HLB.out
              subst hnn
              go_simp
              refine (rows1 _ A3 A4 n3 c3 c4 _ HRA.out HRB.out HL.out (by have h7 := HL1.out; have h8 := HL.out; omega)).mono ?_
              rintro x5 w5 ⟨rfl, o5⟩
              refine hK _ _ (o5.more (by simp)) ?_
              clear hK K
              try simp only [Act.put, List.setIfInBounds_toArray, List.set_cons_zero, List.set_cons_succ]
              have HD := hid (HD.out.only o5 (by simp)); have HC := hid (HC.out.nil o5); have OA := hid (OA.out.only o5 (by simp)); have OX := hid (OX.out.only o5 (by simp)); have QT := hid (QT.out.trans o5)
              clear o5
              refine rgn.Walk.es ?_
              refine rgn.stepE rfl rfl (fun K hK => ?_)
              go_simp
              refine hK _ _ ((Only.refl [m, g2]) _) ?_
              clear hK K
              try simp only [Act.put, List.setIfInBounds_toArray, List.set_cons_zero, List.set_cons_succ]
              refine rgn.Walk.zs (NoPanic.normal ?_)
              have HOK9 := hid (HOK.out.tick (z + d) x.dr HTK.out)
              obtain ⟨s9, hs9⟩ : ∃ s9, (s.tick (z + d) x.dr).1 = s9 := ⟨_, rfl⟩
              simp only [hs9] at HC HD HOK9
              clear hs9
              obtain ⟨r, hr⟩ : ∃ r, decide (3 ≤ s9.st) = r := ⟨_, rfl⟩
              have HRR := hid hr
              clear hr
              go_wp2_with fail
              refine (hasC1 _ g m s9 HC.out).mono ?_
              rintro x6 w6 ⟨rfl, q8⟩
              rw [HRR.out]
              have HD := hid (HD.out.only q8 (by simp)); have HC := hid (HC.out.nil q8); have OA := hid (OA.out.only q8 (by simp)); have OX := hid (OX.out.only q8 (by simp)); have QT := hid (QT.out.trans q8)
              clear q8
              obtain ⟨bp, hbp⟩ : ∃ bp, w6.heap.size = bp := ⟨_, rfl⟩
              obtain ⟨WB, hWB⟩ : ∃ WB, w6.alloc (.cells #[.int .i64 0, .int .u32 0, .int .u32 0, .int .u8 0, .int .u8 0, .int .u8 0, .int .u8 0, .int .u8 0, .int .u8 0, .int .i64 0, .int .u32 0, .int .u32 0, .int .i64 0, .int .u32 0, .int .u32 0, .int .u32 0] 27) = WB := ⟨_, rfl⟩
              have Obp : Hid (Ob WB bp 27 Lm.zero.cs) := hid (by rw [← hWB, ← hbp]; exact Ob.new _ _ _)
              have QA : Hid (Only [] w6 WB) := hid (by rw [← hWB]; exact (Only.refl [] w6).alloc _)
              have Hbp : Hid (w6.heap.size ≤ bp) := hid (by omega)
              go_wp2_with (first | (refine wp_put rfl _ _ _ rfl bp 0 rfl (.agg s9.had.cs) rfl Obp.out (by kernel_rfl) (show _ ≤ 16 from Nat.le_of_ble_eq_true rfl) (one_l _) (p_all Obp.out s9.had) ?_) | fail)
              intro W9 hb9 o9
              try simp only [Act.put, List.setIfInBounds_toArray, List.set_cons_zero, List.set_cons_succ]
              have Obp := hid hb9
              have HQ : Hid (Only [] w6 W9) := hid (QA.out.fresh o9 (fun i hi => .inr (by rw [List.mem_singleton.1 hi]; exact Hbp.out)))
              clear hb9 o9 hWB hbp
              have q8 := HQ.out
              have HD := hid (HD.out.only q8 (by simp)); have HC := hid (HC.out.nil q8); have OA := hid (OA.out.only q8 (by simp)); have OX := hid (OX.out.only q8 (by simp)); have QT := hid (QT.out.trans q8)
              clear q8
              go_wp2_with fail
              refine (docHas _ g2 s9 HD.out).mono ?_
              rintro x7 w7 ⟨rfl, q8⟩
              rw [HRR.out]
              have HD := hid (HD.out.only q8 (by simp)); have HC := hid (HC.out.nil q8); have OA := hid (OA.out.only q8 (by simp)); have OX := hid (OX.out.only q8 (by simp)); have QT := hid (QT.out.trans q8)
              have Obp := hid (Obp.out.only q8 (by simp))
              clear q8
              obtain ⟨bq, hbq⟩ : ∃ bq, w7.heap.size = bq := ⟨_, rfl⟩
              obtain ⟨WC, hWC⟩ : ∃ WC, w7.alloc (.cells #[.int .i64 0, .int .u32 0, .int .u32 0, .int .u8 0, .int .u8 0, .int .u8 0, .int .u8 0, .int .u8 0, .int .u8 0, .int .i64 0, .int .u32 0, .int .u32 0, .int .i64 0, .int .u32 0, .int .u32 0, .int .u32 0] 27) = WC := ⟨_, rfl⟩
              have Obq : Hid (Ob WC bq 27 Lm.zero.cs) := hid (by rw [← hWC, ← hbq]; exact Ob.new _ _ _)
              have QA : Hid (Only [] w7 WC) := hid (by rw [← hWC]; exact (Only.refl [] w7).alloc _)
              have Hbq : Hid (w7.heap.size ≤ bq) := hid (by omega)
              go_wp2_with (first | (refine wp_put rfl _ _ _ rfl bq 0 rfl (.agg s9.had.cs) rfl Obq.out (by kernel_rfl) (show _ ≤ 16 from Nat.le_of_ble_eq_true rfl) (one_l _) (p_all Obq.out s9.had) ?_) | fail)
              intro W9 hb9 o9
              try simp only [Act.put, List.setIfInBounds_toArray, List.set_cons_zero, List.set_cons_succ]
              have Obq := hid hb9
              have HQ : Hid (Only [] w7 W9) := hid (QA.out.fresh o9 (fun i hi => .inr (by rw [List.mem_singleton.1 hi]; exact Hbq.out)))
              clear hb9 o9 hWC hbq
              have q8 := HQ.out
              have HD := hid (HD.out.only q8 (by simp)); have HC := hid (HC.out.nil q8); have OA := hid (OA.out.only q8 (by simp)); have OX := hid (OX.out.only q8 (by simp)); have QT := hid (QT.out.trans q8)
              have Obp := hid (Obp.out.only q8 (by simp))
              clear q8
              go_wp2_with fail
              refine wp_region_noPanic ?_
              refine rgn.regionT (R := Only []) (by kernel_rfl) (Only.refl []) (fun _ _ _ => Only.trans) (fun _ _ _ _ _ h => h) (.y 0 (.y 1 (.y 2 (.y 3 (.y 4 (.y 5 (.y 6 (.y 7 (.y 8 (.y 9 (.y 10 (.y 11 (.y 12 (.y 13 (.y 15 (.y 16 (.y 17 (.y 18 (.e 14 (.y 19 (.y 20 .z))))))))))))))))))))) (by kernel_rfl) (fun W hWd => ?_)
              have HWd := hid hWd; clear hWd
              have q8 : Only [] W9 W := Only.eq_drew (Only.refl [] _) HWd.out
              have HD := hid (HD.out.only q8 (by simp)); have HC := hid (HC.out.nil q8); have OA := hid (OA.out.only q8 (by simp)); have OX := hid (OX.out.only q8 (by simp)); have QT := hid (QT.out.trans q8)
              have Obp := hid (Obp.out.only q8 (by simp)); have Obq := hid (Obq.out.only q8 (by simp))
              clear q8 HWd
              refine rgn.Walk.ys (v := ?_) rfl rfl rfl ?_ ?_
              rotate_left 1
              · intro W' hW'
                go_simp
                try with_reducible rfl
              try simp only [Act.put, List.setIfInBounds_toArray, List.set_cons_zero, List.set_cons_succ]
              refine rgn.Walk.ys (v := ?_) rfl rfl rfl ?_ ?_
              rotate_left 1
              · intro W' hW'
                go_simp
                try with_reducible rfl
              try simp only [Act.put, List.setIfInBounds_toArray, List.set_cons_zero, List.set_cons_succ]
              refine rgn.Walk.ys (v := ?_) rfl rfl rfl ?_ ?_
              rotate_left 1
              · intro W' hW'
                go_simp
                try with_reducible rfl
              try simp only [Act.put, List.setIfInBounds_toArray, List.set_cons_zero, List.set_cons_succ]
              refine rgn.Walk.ys rfl rfl rfl (fun W' hW' => exec_lm _ _ rfl bp 0 rfl s9.had (r_all (Obp.out.only hW' (by simp))) Try.underlying27 rfl (by kernel_rfl)) ?_
              try simp only [Act.put, List.setIfInBounds_toArray, List.set_cons_zero, List.set_cons_succ]
              refine rgn.Walk.ys rfl rfl rfl (fun W' hW' => exec_lm _ _ rfl bq 0 rfl s9.had (r_all (Obq.out.only hW' (by simp))) Try.underlying27 rfl (by kernel_rfl)) ?_
              try simp only [Act.put, List.setIfInBounds_toArray, List.set_cons_zero, List.set_cons_succ]
              refine rgn.Walk.ys rfl rfl rfl (fun W' hW' => exec_ne _ _ _ rfl s9.had rfl rfl) ?_
              try simp only [Act.put, List.setIfInBounds_toArray, List.set_cons_zero, List.set_cons_succ]
              refine rgn.Walk.ys (v := ?_) rfl rfl rfl ?_ ?_
              rotate_left 1
              · intro W' hW'
                go_simp
                try with_reducible rfl
              try simp only [Act.put, List.setIfInBounds_toArray, List.set_cons_zero, List.set_cons_succ]
              refine rgn.Walk.ys (v := ?_) rfl rfl rfl ?_ ?_
              rotate_left 1
              · intro W' hW'
                go_simp
                try with_reducible rfl
              try simp only [Act.put, List.setIfInBounds_toArray, List.set_cons_zero, List.set_cons_succ]
              refine rgn.Walk.ys (v := ?_) rfl rfl rfl ?_ ?_
              rotate_left 1
              · intro W' hW'
                go_simp
                try with_reducible rfl
              try simp only [Act.put, List.setIfInBounds_toArray, List.set_cons_zero, List.set_cons_succ]
              refine rgn.Walk.ys (v := ?_) rfl rfl rfl ?_ ?_
              rotate_left 1
              · intro W' hW'
                go_simp
                try with_reducible rfl
              try simp only [Act.put, List.setIfInBounds_toArray, List.set_cons_zero, List.set_cons_succ]
              refine rgn.Walk.ys (v := ?_) rfl rfl rfl ?_ ?_
              rotate_left 1
              · intro W' hW'
                go_simp
                try with_reducible rfl
              try simp only [Act.put, List.setIfInBounds_toArray, List.set_cons_zero, List.set_cons_succ]
              refine rgn.Walk.ys (v := ?_) rfl rfl rfl ?_ ?_
              rotate_left 1
              · intro W' hW'
                go_simp
                try with_reducible rfl
              try simp only [Act.put, List.setIfInBounds_toArray, List.set_cons_zero, List.set_cons_succ]
              refine rgn.Walk.ys (v := ?_) rfl rfl rfl ?_ ?_
              rotate_left 1
              · intro W' hW'
                go_simp
                try with_reducible rfl
              try simp only [Act.put, List.setIfInBounds_toArray, List.set_cons_zero, List.set_cons_succ]
              refine rgn.Walk.ys (v := ?_) rfl rfl rfl ?_ ?_
              rotate_left 1
              · intro W' hW'
                go_simp
                try with_reducible rfl
              try simp only [Act.put, List.setIfInBounds_toArray, List.set_cons_zero, List.set_cons_succ]
              refine rgn.Walk.ys (v := ?_) rfl rfl rfl ?_ ?_
              rotate_left 1
              · intro W' hW'
                go_simp
                try with_reducible rfl
              try simp only [Act.put, List.setIfInBounds_toArray, List.set_cons_zero, List.set_cons_succ]
              refine rgn.Walk.ys (v := ?_) rfl rfl rfl ?_ ?_
              rotate_left 1
              · intro W' hW'
                go_simp
                try with_reducible rfl
              try simp only [Act.put, List.setIfInBounds_toArray, List.set_cons_zero, List.set_cons_succ]
              refine rgn.Walk.ys (v := ?_) rfl rfl rfl ?_ ?_
              rotate_left 1
              · intro W' hW'
                go_simp
                try with_reducible rfl
              try simp only [Act.put, List.setIfInBounds_toArray, List.set_cons_zero, List.set_cons_succ]
              refine rgn.Walk.ys (v := ?_) rfl rfl rfl ?_ ?_
              rotate_left 1
              · intro W' hW'
                have q0 := (HD.out.only hW' (by simp)).st
                go_simp
                try with_reducible rfl
              try simp only [Act.put, List.setIfInBounds_toArray, List.set_cons_zero, List.set_cons_succ]
              refine rgn.Walk.es ?_
              refine rgn.stepE rfl rfl (fun K hK => ?_)
              go_simp
              refine (state1 _ g m s9 HC.out).mono ?_
              rintro x8 w8 ⟨rfl, rfl⟩
              refine hK _ _ (Only.refl _ _) ?_
              clear hK K
              try simp only [Act.put, List.setIfInBounds_toArray, List.set_cons_zero, List.set_cons_succ]
              refine rgn.Walk.ys (v := ?_) rfl rfl rfl ?_ ?_
              rotate_left 1
              · intro W' hW'
                go_simp
                try with_reducible rfl
              try simp only [Act.put, List.setIfInBounds_toArray, List.set_cons_zero, List.set_cons_succ]
              refine rgn.Walk.ys (v := ?_) rfl rfl rfl ?_ ?_
              rotate_left 1
              · intro W' hW'
                go_simp
                try with_reducible rfl
              try simp only [Act.put, List.setIfInBounds_toArray, List.set_cons_zero, List.set_cons_succ]
              refine rgn.Walk.zs (NoPanic.normal ?_)
              go_wp2_with fail
              go_roundw
              case rel => exact ⟨k + 1, z + d, s9, by omega, by first | rfl | go_num, rfl, HZ2, HOK9, HC, HD, OA, QT⟩
              case measure => simp [RowKit.intOf]; omega
            · have f1 : (x.k == 1) = false := by simp [k1]
              have f2 : (x.k == 2) = false := by simp [k2]
              have f3 : (x.k == 3) = false := by simp [k3]
              clear k1 k2 k3
              go_wp2_with fail
              have HG2 := hid HD.out.lt
              refine (release1 _ g m s HC.out).mono ?_
              intro x3 w3 hx3
              obtain ⟨A3, n3, c3, rfl, hl, hr, hf, hci, o3⟩ := HC.out.own hx3
              have HL := hid hl; have HR := hid hr; have HF := hid hf; have HC := hid hci; have HD := hid (HD.out.only o3 (by have := HNE.out; simp; omega)); have OA := hid (OA.out.only o3 (by have := HNE.out; simp; omega)); have OX := hid (OX.out.only o3 (by have := HBX.out.1; simp at this ⊢; omega)); have QT := hid (QT.out.fresh o3 (fun i hi => .inr (by rw [List.mem_singleton.1 hi]; have := HNE.out; omega)))
              clear hl hr hf hci o3 hx3
              go_wp2_with fail
              refine (docFree _ g2 s HD.out).mono ?_
              rintro x4 w4 ⟨A4, n4, c4, rfl, hl, hr, hf, hdi, o4⟩
              have hg := HD.out.lt
              have HRA := hid (HR.out.only o4 (fun b off e _ hm => by have h8 := HF.out b off e; rw [List.mem_singleton.1 hm] at h8; have := HG2.out; omega)); have HRB := hid hr; have HLB := hid hl; have HD := hid hdi; have HC := hid (HC.out.only o4 (by have := HNE.out; simp; omega) (by have := HNE.out; simp; omega)); have OA := hid (OA.out.only o4 (by have := HNE.out; simp; omega)); have OX := hid (OX.out.only o4 (by have := HBX.out.1; simp at this ⊢; omega)); have QT := hid (QT.out.fresh o4 (fun i hi => .inr (by rw [List.mem_singleton.1 hi]; have := HNE.out; omega)))
              clear hl hr hf hdi o4 hg
              have HL1 := hid (len_free s)
              go_wp2_with fail
              have hnn := HL.out.symm.trans HLB.out
              subst hnn
              refine (rows1 _ A3 A4 n3 c3 c4 _ HRA.out HRB.out HL.out (by have h7 := HL1.out; have h8 := HL.out; omega)).mono ?_
              rintro x5 w5 ⟨rfl, o5⟩
              have HD := hid (HD.out.only o5 (by simp)); have HC := hid (HC.out.nil o5); have OA := hid (OA.out.only o5 (by simp)); have OX := hid (OX.out.only o5 (by simp)); have QT := hid (QT.out.trans o5)
              clear o5
              clear e0 e1
              have HOK9 := hid HOK.out.free
              obtain ⟨s9, hs9⟩ : ∃ s9, s.free.1 = s9 := ⟨_, rfl⟩
              simp only [hs9] at HC HD HOK9
              clear hs9
              obtain ⟨r, hr⟩ : ∃ r, decide (3 ≤ s9.st) = r := ⟨_, rfl⟩
              have HRR := hid hr
              clear hr
              go_wp2_with fail
              refine (hasC1 _ g m s9 HC.out).mono ?_
              rintro x6 w6 ⟨rfl, q8⟩
              rw [HRR.out]
              have HD := hid (HD.out.only q8 (by simp)); have HC := hid (HC.out.nil q8); have OA := hid (OA.out.only q8 (by simp)); have OX := hid (OX.out.only q8 (by simp)); have QT := hid (QT.out.trans q8)
              clear q8
              obtain ⟨bp, hbp⟩ : ∃ bp, w6.heap.size = bp := ⟨_, rfl⟩
              obtain ⟨WB, hWB⟩ : ∃ WB, w6.alloc (.cells #[.int .i64 0, .int .u32 0, .int .u32 0, .int .u8 0, .int .u8 0, .int .u8 0, .int .u8 0, .int .u8 0, .int .u8 0, .int .i64 0, .int .u32 0, .int .u32 0, .int .i64 0, .int .u32 0, .int .u32 0, .int .u32 0] 27) = WB := ⟨_, rfl⟩
              have Obp : Hid (Ob WB bp 27 Lm.zero.cs) := hid (by rw [← hWB, ← hbp]; exact Ob.new _ _ _)
              have QA : Hid (Only [] w6 WB) := hid (by rw [← hWB]; exact (Only.refl [] w6).alloc _)
              have Hbp : Hid (w6.heap.size ≤ bp) := hid (by omega)
              go_wp2_with (first | (refine wp_put rfl _ _ _ rfl bp 0 rfl (.agg s9.had.cs) rfl Obp.out (by kernel_rfl) (show _ ≤ 16 from Nat.le_of_ble_eq_true rfl) (one_l _) (p_all Obp.out s9.had) ?_) | fail)
              intro W9 hb9 o9
              try simp only [Act.put, List.setIfInBounds_toArray, List.set_cons_zero, List.set_cons_succ]
              have Obp := hid hb9
              have HQ : Hid (Only [] w6 W9) := hid (QA.out.fresh o9 (fun i hi => .inr (by rw [List.mem_singleton.1 hi]; exact Hbp.out)))
              clear hb9 o9 hWB hbp
              have q8 := HQ.out
              have HD := hid (HD.out.only q8 (by simp)); have HC := hid (HC.out.nil q8); have OA := hid (OA.out.only q8 (by simp)); have OX := hid (OX.out.only q8 (by simp)); have QT := hid (QT.out.trans q8)
              clear q8
              go_wp2_with fail
              refine (docHas _ g2 s9 HD.out).mono ?_
              rintro x7 w7 ⟨rfl, q8⟩
              rw [HRR.out]
              have HD := hid (HD.out.only q8 (by simp)); have HC := hid (HC.out.nil q8); have OA := hid (OA.out.only q8 (by simp)); have OX := hid (OX.out.only q8 (by simp)); have QT := hid (QT.out.trans q8)
              have Obp := hid (Obp.out.only q8 (by simp))
              clear q8
              obtain ⟨bq, hbq⟩ : ∃ bq, w7.heap.size = bq := ⟨_, rfl⟩
              obtain ⟨WC, hWC⟩ : ∃ WC, w7.alloc (.cells #[.int .i64 0, .int .u32 0, .int .u32 0, .int .u8 0, .int .u8 0, .int .u8 0, .int .u8 0, .int .u8 0, .int .u8 0, .int .i64 0, .int .u32 0, .int .u32 0, .int .i64 0, .int .u32 0, .int .u32 0, .int .u32 0] 27) = WC := ⟨_, rfl⟩
              have Obq : Hid (Ob WC bq 27 Lm.zero.cs) := hid (by rw [← hWC, ← hbq]; exact Ob.new _ _ _)
              have QA : Hid (Only [] w7 WC) := hid (by rw [← hWC]; exact (Only.refl [] w7).alloc _)
              have Hbq : Hid (w7.heap.size ≤ bq) := hid (by omega)
              go_wp2_with (first | (refine wp_put rfl _ _ _ rfl bq 0 rfl (.agg s9.had.cs) rfl Obq.out (by kernel_rfl) (show _ ≤ 16 from Nat.le_of_ble_eq_true rfl) (one_l _) (p_all Obq.out s9.had) ?_) | fail)
              intro W9 hb9 o9
              try simp only [Act.put, List.setIfInBounds_toArray, List.set_cons_zero, List.set_cons_succ]
              have Obq := hid hb9
              have HQ : Hid (Only [] w7 W9) := hid (QA.out.fresh o9 (fun i hi => .inr (by rw [List.mem_singleton.1 hi]; exact Hbq.out)))
              clear hb9 o9 hWC hbq
              have q8 := HQ.out
              have HD := hid (HD.out.only q8 (by simp)); have HC := hid (HC.out.nil q8); have OA := hid (OA.out.only q8 (by simp)); have OX := hid (OX.out.only q8 (by simp)); have QT := hid (QT.out.trans q8)
              have Obp := hid (Obp.out.only q8 (by simp))
              clear q8
              go_wp2_with fail
              refine wp_region_noPanic ?_
              refine rgn.regionT (R := Only []) (by kernel_rfl) (Only.refl []) (fun _ _ _ => Only.trans) (fun _ _ _ _ _ h => h) (.y 0 (.y 1 (.y 2 (.y 3 (.y 4 (.y 5 (.y 6 (.y 7 (.y 8 (.y 9 (.y 10 (.y 11 (.y 12 (.y 13 (.y 15 (.y 16 (.y 17 (.y 18 (.e 14 (.y 19 (.y 20 .z))))))))))))))))))))) (by kernel_rfl) (fun W hWd => ?_)
              have HWd := hid hWd; clear hWd
              have q8 : Only [] W9 W := Only.eq_drew (Only.refl [] _) HWd.out
              have HD := hid (HD.out.only q8 (by simp)); have HC := hid (HC.out.nil q8); have OA := hid (OA.out.only q8 (by simp)); have OX := hid (OX.out.only q8 (by simp)); have QT := hid (QT.out.trans q8)
              have Obp := hid (Obp.out.only q8 (by simp)); have Obq := hid (Obq.out.only q8 (by simp))
              clear q8 HWd
              refine rgn.Walk.ys (v := ?_) rfl rfl rfl ?_ ?_
              rotate_left 1
              · intro W' hW'
                go_simp
                try with_reducible rfl
              try simp only [Act.put, List.setIfInBounds_toArray, List.set_cons_zero, List.set_cons_succ]
              refine rgn.Walk.ys (v := ?_) rfl rfl rfl ?_ ?_
              rotate_left 1
              · intro W' hW'
                go_simp
                try with_reducible rfl
              try simp only [Act.put, List.setIfInBounds_toArray, List.set_cons_zero, List.set_cons_succ]
              refine rgn.Walk.ys (v := ?_) rfl rfl rfl ?_ ?_
              rotate_left 1
              · intro W' hW'
                go_simp
                try with_reducible rfl
              try simp only [Act.put, List.setIfInBounds_toArray, List.set_cons_zero, List.set_cons_succ]
              refine rgn.Walk.ys rfl rfl rfl (fun W' hW' => exec_lm _ _ rfl bp 0 rfl s9.had (r_all (Obp.out.only hW' (by simp))) Try.underlying27 rfl (by kernel_rfl)) ?_
              try simp only [Act.put, List.setIfInBounds_toArray, List.set_cons_zero, List.set_cons_succ]
              refine rgn.Walk.ys rfl rfl rfl (fun W' hW' => exec_lm _ _ rfl bq 0 rfl s9.had (r_all (Obq.out.only hW' (by simp))) Try.underlying27 rfl (by kernel_rfl)) ?_
              try simp only [Act.put, List.setIfInBounds_toArray, List.set_cons_zero, List.set_cons_succ]
              refine rgn.Walk.ys rfl rfl rfl (fun W' hW' => exec_ne _ _ _ rfl s9.had rfl rfl) ?_
              try simp only [Act.put, List.setIfInBounds_toArray, List.set_cons_zero, List.set_cons_succ]
              refine rgn.Walk.ys (v := ?_) rfl rfl rfl ?_ ?_
              rotate_left 1
              · intro W' hW'
                go_simp
                try with_reducible rfl
              try simp only [Act.put, List.setIfInBounds_toArray, List.set_cons_zero, List.set_cons_succ]
              refine rgn.Walk.ys (v := ?_) rfl rfl rfl ?_ ?_
              rotate_left 1
              · intro W' hW'
                go_simp
                try with_reducible rfl
              try simp only [Act.put, List.setIfInBounds_toArray, List.set_cons_zero, List.set_cons_succ]
              refine rgn.Walk.ys (v := ?_) rfl rfl rfl ?_ ?_
              rotate_left 1
              · intro W' hW'
                go_simp
                try with_reducible rfl
              try simp only [Act.put, List.setIfInBounds_toArray, List.set_cons_zero, List.set_cons_succ]
              refine rgn.Walk.ys (v := ?_) rfl rfl rfl ?_ ?_
              rotate_left 1
              · intro W' hW'
                go_simp
                try with_reducible rfl
              try simp only [Act.put, List.setIfInBounds_toArray, List.set_cons_zero, List.set_cons_succ]
              refine rgn.Walk.ys (v := ?_) rfl rfl rfl ?_ ?_
              rotate_left 1
              · intro W' hW'
                go_simp
                try with_reducible rfl
              try simp only [Act.put, List.setIfInBounds_toArray, List.set_cons_zero, List.set_cons_succ]
              refine rgn.Walk.ys (v := ?_) rfl rfl rfl ?_ ?_
              rotate_left 1
              · intro W' hW'
                go_simp
                try with_reducible rfl
              try simp only [Act.put, List.setIfInBounds_toArray, List.set_cons_zero, List.set_cons_succ]
              refine rgn.Walk.ys (v := ?_) rfl rfl rfl ?_ ?_
              rotate_left 1
              · intro W' hW'
                go_simp
                try with_reducible rfl
              try simp only [Act.put, List.setIfInBounds_toArray, List.set_cons_zero, List.set_cons_succ]
              refine rgn.Walk.ys (v := ?_) rfl rfl rfl ?_ ?_
              rotate_left 1
              · intro W' hW'
                go_simp
                try with_reducible rfl
              try simp only [Act.put, List.setIfInBounds_toArray, List.set_cons_zero, List.set_cons_succ]
              refine rgn.Walk.ys (v := ?_) rfl rfl rfl ?_ ?_
              rotate_left 1
              · intro W' hW'
                go_simp
                try with_reducible rfl
              try simp only [Act.put, List.setIfInBounds_toArray, List.set_cons_zero, List.set_cons_succ]
              refine rgn.Walk.ys (v := ?_) rfl rfl rfl ?_ ?_
              rotate_left 1
              · intro W' hW'
                go_simp
                try with_reducible rfl
              try simp only [Act.put, List.setIfInBounds_toArray, List.set_cons_zero, List.set_cons_succ]
              refine rgn.Walk.ys (v := ?_) rfl rfl rfl ?_ ?_
              rotate_left 1
              · intro W' hW'
                go_simp
                try with_reducible rfl
              try simp only [Act.put, List.setIfInBounds_toArray, List.set_cons_zero, List.set_cons_succ]
              refine rgn.Walk.ys (v := ?_) rfl rfl rfl ?_ ?_
              rotate_left 1
              · intro W' hW'
                have q0 := (HD.out.only hW' (by simp)).st
                go_simp
                try with_reducible rfl
              try simp only [Act.put, List.setIfInBounds_toArray, List.set_cons_zero, List.set_cons_succ]
              refine rgn.Walk.es ?_
              refine rgn.stepE rfl rfl (fun K hK => ?_)
              go_simp
              refine (state1 _ g m s9 HC.out).mono ?_
              rintro x8 w8 ⟨rfl, rfl⟩
              refine hK _ _ (Only.refl _ _) ?_
              clear hK K
              try simp only [Act.put, List.setIfInBounds_toArray, List.set_cons_zero, List.set_cons_succ]
              refine rgn.Walk.ys (v := ?_) rfl rfl rfl ?_ ?_
              rotate_left 1
              · intro W' hW'
                go_simp
                try with_reducible rfl
              try simp only [Act.put, List.setIfInBounds_toArray, List.set_cons_zero, List.set_cons_succ]
              refine rgn.Walk.ys (v := ?_) rfl rfl rfl ?_ ?_
              rotate_left 1
              · intro W' hW'
                go_simp
                try with_reducible rfl
              try simp only [Act.put, List.setIfInBounds_toArray, List.set_cons_zero, List.set_cons_succ]
              refine rgn.Walk.zs (NoPanic.normal ?_)
              go_wp2_with fail
              go_roundw
              case rel => exact ⟨k + 1, z + d, s9, by omega, by first | rfl | go_num, rfl, HZ2, HOK9, HC, HD, OA, QT⟩
              case measure => simp [RowKit.intOf]; omega
      · go_wp2_with fail
        refine (ev.known wr).mono ?_
        rintro x w9 ⟨rfl, o9⟩
        have Q9 := hid (QT.out.trans o9)
        clear o9
        go_wp2_with fail
        go_ret
        exact ⟨rfl, Q9.out⟩
    · go_wp2_with fail
      refine (ev.known wr).mono ?_
      rintro x w9 ⟨rfl, o9⟩
      have Q9 := hid (QT.out.trans o9)
      clear o9
      go_wp2_with fail
      go_ret
      exact ⟨rfl, Q9.out⟩
end Go.Proofs.Ytdpmjghdmpaehaa.lp
