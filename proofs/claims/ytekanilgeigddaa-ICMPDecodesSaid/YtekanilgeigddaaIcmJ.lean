/-
  Chapter 9 (icmp): the document's Decode, by a walk of its text. Conditions: none but those typed.
-/
import Derived.Test.YtekanilgeigddaaIcmI
import Derived.Deep.RegionHeld3
import Derived.Outline
namespace Go.Proofs.Ytekanilgeigddaa.icm
set_option linter.unusedVariables false
set_option linter.unusedSimpArgs false
open Go.ChangeShapes Go.WideShapes Go.ChangeAt Go.RowKit Go.IntWalk Go.Lib
set_option maxHeartbeats 2000000 in
theorem rdecodeOk0 (w : World) (b off n c : Nat) (l : List Int) (x0 x1 x4 : Int) (N0 : Hid (l.getD 0 0 = x0)) (N1 : Hid (l.getD 1 0 = x1)) (N4 : Hid (ref.get4 l 4 = x4)) (A' : Option Addr) (hsl : ∀ W : World, (Instr.slice 23 (.slice (some ⟨b, off, none⟩) n c) (some (.int .i64 8)) none none).run Try.prog W = .ok (.slice A' (n - 8) (c - 8)) W) (hl : Rd .u8 w (some ⟨b, off, none⟩) n l) (hA : Rd .u8 w A' (n - 8) (l.drop 8)) (hA0 : A' = none → c - 8 = 0) (hn : n ≤ 70000) (h8 : 8 ≤ n) (hs : oct.sumF l = 0) :
    Calls Try.prog 18 #[.slice (some ⟨b, off, none⟩) n c] w fun x w' => ∃ v, x = .returned (.tuple #[.agg #[.int .i64 x0, .int .i64 x1, .int .u32 x4, v], .int .i64 0]) ∧ Own .u8 5 w' w.heap.size v (l.drop 8) ∧ Only [] w w' := by
  have HLen := hid hl.len
  have HL := hid hl
  have HA := hid hA; clear hA
  have HA0 := hid hA0; clear hA0
  have HS := hid hs; clear hs
  obtain ⟨b1, off1, e1, hb, hc⟩ := hl.at_ (by omega)
  obtain ⟨rfl, rfl⟩ : b = b1 ∧ off = off1 := by simpa using e1
  have q0 := hc 0 (by omega)
  have q1 := hc 1 (by omega)
  have w0 := u8Bd (hl.getD_wf 0 (by omega))
  have w1 := u8Bd (hl.getD_wf 1 (by omega))
  rw [N0.out] at w0
  rw [N1.out] at w1
  rw [N0.out, Nat.add_zero] at q0
  rw [N1.out] at q1
  clear hc hl e1
  have OR : Hid (Ob (w.alloc (.cells #[.int .i64 0, .int .i64 0, .int .u32 0, .slice none 0 0] 25)) w.heap.size 25 #[.int .i64 0, .int .i64 0, .int .u32 0, .slice none 0 0]) := hid (Ob.new _ _ _)
  have QB : Hid (Only [] w (w.alloc (.cells #[.int .i64 0, .int .i64 0, .int .u32 0, .slice none 0 0] 25))) := hid ((Only.refl [] w).alloc _)
  go_enter Try.func18, Try.ntmps18
  go_wp2_with fail
  refine (oct.sum2 _ _ n c l (HL.out.alloc _) (by omega)).mono ?_
  rintro x w1 ⟨rfl, m1, rfl⟩
  rw [HS.out]
  go_wp2_with fail
  have hi0 : (0 : Int) < (n : Int) := by omega
  have hi2 : 0 < n := by omega
  have hi3 : 1 < n := by omega
  have VL : Hid (∀ W : World, W.heap.size = w.heap.size + 1 → Own .u8 5 (W.alloc (.cells #[] 5)) (w.heap.size + 1) (.slice (some ⟨w.heap.size + 1, 0, none⟩) 0 0) []) := hid (by
    intro W h
    have := Own.lit .u8 5 W (w.heap.size + 1) [] #[] 0 rfl rfl (by omega) (by decide) (by simp)
    rwa [h] at this)
  have hne1 : ¬ w.heap.size = b := by omega
  have hne2 : ¬ b = w.heap.size := by omega
  have z0 : IntKind.i64.wrap x0 = x0 := i64_in _ (by omega)
  have z1 : IntKind.i64.wrap x1 = x1 := i64_in _ (by omega)
  have z2 : wrap64 x0 = x0 := wrap64_in _ (by omega)
  have z3 : wrap64 x1 = x1 := wrap64_in _ (by omega)
  have hi1 : (1 : Int) < (n : Int) := by omega
  go_region_held3 (fun w' => w'.cell? ⟨b, off, none⟩ = some (.int .u8 x0) ∧ w'.cell? ⟨b, off + 1, none⟩ = some (.int .u8 x1)) (go_keep) (first
    | (go_at_call 41; refine (ref.get41 _ _ n c l (by exact HL.out.only_nil (by repeat (first | exact QB.out | refine Only.drewN ?_ _ | refine Only.drew ?_ | refine Only.alloc ?_ _))) 4 (by omega) (by omega)).mono ?_; rintro x w2 ⟨rfl, m2, rfl⟩; rw [N4.out])
    | (refine step_app _ rfl (.tmp 22) (.tmp 24) _ rfl hlp.elemB (w.heap.size + 1) (.slice (some ⟨w.heap.size + 1, 0, none⟩) 0 0) [] rfl ?g0 A' (n - 8) (c - 8) (l.drop 8) rfl ?g1 ?g2 ?g3 ?g4 ?g5 ?_; (case g0 => repeat (first | exact VL.out _ (by simp) | refine Own.drewN ?_ _ | refine Own.drew ?_)); (case g1 => exact HA.out.only_nil (by repeat (first | exact QB.out | refine Only.drewN ?_ _ | refine Only.drew ?_ | refine Only.alloc ?_ _))); (case g2 => exact HA0.out); (case g3 => simp; omega); (case g4 => simp [maxLen]; omega); (case g5 => simp); intro v1 w3 hv3 hg3 hb3; have OR := hid (Ob.grown (g := w.heap.size) (t := 25) (cs := #[.int .i64 0, .int .i64 0, .int .u32 0, .slice none 0 0]) (by repeat (first | exact OR.out | refine Ob.drewN ?_ _ | refine Ob.drew ?_ | refine Ob.alloc ?_ _)) hg3 (by simp [Value.ownBlock])); have QB := hid (Only.of_grown (S := []) (a := w) (by repeat (first | exact QB.out | refine Only.drewN ?_ _ | refine Only.drew ?_ | refine Only.alloc ?_ _)) hg3 (by intro k hk; simp [Value.ownBlock] at hk; exact .inr (by omega))); have V1 := hid hv3; clear hv3 hg3 hb3; have q0 := (QB.out.cell (p := ⟨b, off, none⟩) hb (by simp)).trans q0; have q1 := (QB.out.cell (p := ⟨b, off + 1, none⟩) hb (by simp)).trans q1; have j0 := OR.out.cell 0; have j1 := OR.out.cell 1; have j2 := OR.out.cell 2; have j3 := OR.out.cell 3; have i0 := OR.out.frozen 0; have i1 := OR.out.frozen 1; have i2 := OR.out.frozen 2; have i3 := OR.out.frozen 3; obtain ⟨A1, cap1, ev1, _, _, _, _⟩ := V1.out.slice; subst ev1))
  all_goals
    have hL8 : ([] ++ l.drop 8).length = l.length - 8 := by simp
    have hout : Only [] w ((((w3.setCell ⟨w.heap.size, 0, none⟩ (.int .i64 x0)).setCell ⟨w.heap.size, 1, none⟩ (.int .i64 x1)).setCell ⟨w.heap.size, 2, none⟩ (.int .u32 x4)).setCell ⟨w.heap.size, 3, none⟩ (.slice A1 (l.length - 8) cap1)) := by
      refine Only.setCell ?_ (Or.inr (by simp)) _
      refine Only.setCell ?_ (Or.inr (by simp)) _
      refine Only.setCell ?_ (Or.inr (by simp)) _
      exact QB.out.setCell (Or.inr (by simp)) _
    have hown : Own .u8 5 ((((w3.setCell ⟨w.heap.size, 0, none⟩ (.int .i64 x0)).setCell ⟨w.heap.size, 1, none⟩ (.int .i64 x1)).setCell ⟨w.heap.size, 2, none⟩ (.int .u32 x4)).setCell ⟨w.heap.size, 3, none⟩ (.slice A1 (l.length - 8) cap1)) w.heap.size (.slice A1 (l.length - 8) cap1) (l.drop 8) := by
      have h0 : Own .u8 5 w3 (w.heap.size + 1) (.slice A1 (l.length - 8) cap1) (l.drop 8) := by rw [← hL8]; exact V1.out
      refine (h0.only (S := [w.heap.size]) ?_ ?_).mono_base (by omega)
      · refine Only.setCell ?_ (Or.inl (by simp)) _
        refine Only.setCell ?_ (Or.inl (by simp)) _
        refine Only.setCell ?_ (Or.inl (by simp)) _
        exact (Only.refl _ w3).setCell (Or.inl (by simp)) _
      · intro g hg
        have := h0.lt g hg
        simp
        omega
    have HO := hid hout; have HW := hid hown; clear hout hown hL8
    go_wp2
    exact bodyPost_ret (v := .tuple #[.agg #[.int .i64 x0, .int .i64 x1, .int .u32 x4, .slice A1 (l.length - 8) cap1], .int .i64 0]) (by simp [results, Try.results18, go_sem, j0, j1, j2, j3]) rfl ⟨_, rfl, HW.out, HO.out⟩
theorem slice8 (b off n c : Nat) (h8 : 8 ≤ n) (hnc : n ≤ c) (hc : ¬ c = 8) (W : World) : (Instr.slice 23 (.slice (some ⟨b, off, none⟩) n c) (some (.int .i64 8)) none none).run Try.prog W = .ok (.slice (some ⟨b, off + 8, none⟩) (n - 8) (c - 8)) W := by
  have h1 : (8 : Int) ≤ (n : Int) := by omega
  have hU := Try.underlying23
  go_simp
theorem slice8e (b off n : Nat) (h8 : 8 = n) (W : World) : (Instr.slice 23 (.slice (some ⟨b, off, none⟩) n 8) (some (.int .i64 8)) none none).run Try.prog W = .ok (.slice (some ⟨b, off, none⟩) (n - 8) (8 - 8)) W := by
  subst h8
  go_simp
theorem rdecodeOk (w : World) (A : Option Addr) (n c : Nat) (l : List Int) (hl : Rd .u8 w A n l) (hnc : n ≤ c) (hn : n ≤ 70000) (h8 : 8 ≤ n) (hs : oct.sumF l = 0) :
    Calls Try.prog 18 #[.slice A n c] w fun x w' => ∃ v, x = .returned (.tuple #[.agg #[.int .i64 (l.getD 0 0), .int .i64 (l.getD 1 0), .int .u32 (ref.get4 l 4), v], .int .i64 0]) ∧ Own .u8 5 w' w.heap.size v (l.drop 8) ∧ Only [] w w' := by
  obtain ⟨b, off, rfl, _, _⟩ := hl.at_ (by omega)
  by_cases hc : c = 8
  · subst hc
    obtain rfl : n = 8 := by omega
    refine rdecodeOk0 w b off 8 8 l _ _ _ (hid rfl) (hid rfl) (hid rfl) (some ⟨b, off, none⟩) (slice8e b off 8 rfl) hl ?_ (by simp) hn h8 hs
    have : l.drop 8 = [] := List.drop_of_length_le (by rw [hl.len]; exact Nat.le_refl _)
    rw [this]
    exact Rd.nil _ _ _
  · exact rdecodeOk0 w b off n c l _ _ _ (hid rfl) (hid rfl) (hid rfl) (some ⟨b, off + 8, none⟩) (slice8 b off n c h8 hnc hc) hl (hl.drop 8 h8) (by simp) hn h8 hs
/-- Decode, in all its ways. -/
theorem decAny (w : World) (A : Option Addr) (n c : Nat) (l : List Int) (ty co re : Int) (ls : List Int) (er : Int) (hl : Rd .u8 w A n l) (hc0 : A = none → c = 0) (hn : n ≤ 70000) (h : DecOf l ty co re ls er) :
    Calls Try.prog 17 #[.slice A n c] w fun x w' => ∃ v, x = .returned (.tuple #[.agg #[.int .i64 ty, .int .i64 co, .int .u32 re, v], .int .i64 er]) ∧ Own .u8 5 w' w.heap.size v ls ∧ Only [] w w' := by
  cases h with
  | short h => exact decodeShort w A n c (by rw [← hl.len]; exact h)
  | sum h hs => exact decodeSum w A n c l hl (by rw [← hl.len]; omega) hn hs
  | ok h hs => exact decodeOk0 w A n c l _ _ _ (hid (num_one l 0 (by omega))) (hid (num_one l 1 (by omega))) (hid (num_four l 4 (by omega))) hl hc0 hn h hs
theorem rdecAny (w : World) (A : Option Addr) (n c : Nat) (l : List Int) (ty co re : Int) (ls : List Int) (er : Int) (hl : Rd .u8 w A n l) (hnc : n ≤ c) (hn : n ≤ 70000) (h : DecOf l ty co re ls er) :
    Calls Try.prog 18 #[.slice A n c] w fun x w' => ∃ v, x = .returned (.tuple #[.agg #[.int .i64 ty, .int .i64 co, .int .u32 re, v], .int .i64 er]) ∧ Own .u8 5 w' w.heap.size v ls ∧ Only [] w w' := by
  cases h with
  | short h => exact rdecodeShort w A n c (by rw [← hl.len]; exact h)
  | sum h hs => exact rdecodeSum w A n c l hl (by rw [← hl.len]; omega) hn hs
  | ok h hs => exact rdecodeOk w A n c l hl hnc hn (by rw [← hl.len]; exact h) hs
/-- Two messages that are the same. -/
theorem messages1 (w : World) (ty co re : Int) (A B : Option Addr) (n c m d : Nat) (x : List Int) (hx : Rd .u8 w A n x) (hy : Rd .u8 w B m x) (hn : n ≤ 70000) (hm : m ≤ 70000) :
    Calls Try.prog 19 #[.agg #[.int .i64 ty, .int .i64 co, .int .u32 re, .slice A n c], .agg #[.int .i64 ty, .int .i64 co, .int .u32 re, .slice B m d]] w fun e w' => e = .returned (.bool true) ∧ Only [] w w' := by
  have HX := hid hx; have HY := hid hy; clear hx hy
  go_enter Try.func19, Try.ntmps19
  go_wp2_with fail
  refine (hlp.same _ A B n m c d x x (by exact HX.out.only_nil (((Only.refl [] w).alloc _).alloc _)) (by exact HY.out.only_nil (((Only.refl [] w).alloc _).alloc _)) (by omega) (by omega)).mono ?_
  rintro e w1 ⟨rfl, m1, rfl⟩
  rw [show decide (x = x) = true from by simp]
  go_wp2
  go_ret
  exact ⟨rfl, (((Only.refl [] w).alloc _).alloc _).drewN _⟩
theorem decOf_len {l : List Int} {ty co re : Int} {ls : List Int} {er : Int} (h : DecOf l ty co re ls er) : ls.length ≤ l.length := by
  cases h with
  | short h => simp
  | sum h hs => simp
  | ok h hs => simp
set_option maxHeartbeats 4000000 in
theorem decodesIn (w : World) (A : Option Addr) (n c : Nat) (l : List Int) (hl : Rd .u8 w A n l) (hc0 : A = none → c = 0) (hnc : n ≤ c) (hn : n ≤ 4000) :
    Calls Try.prog 4 #[.slice A n c] w fun x w' => x = .returned (.bool true) ∧ Only [] w w' := by
  obtain ⟨ty, co, re, ls, er, hD⟩ := decOf_any l
  have HD := hid hD
  have HLS := hid (decOf_len hD)
  clear hD
  have HLen := hid hl.len
  have HL := hid hl; clear hl
  have HC := hid hc0; clear hc0
  go_enter Try.func4, Try.ntmps4
  go_wp2_with fail
  refine (hlp.roomy _ A n c l HL.out HC.out (by omega)).mono ?_
  rintro x w1 ⟨g, cap, rfl, hv, o1⟩
  have hcap := hv.len
  obtain ⟨_, hcap1, hcap2⟩ := hcap
  have hgl : w.heap.size ≤ g := hv.base_le.1
  have hgt : g < w1.heap.size := hv.base_le.2
  have hs1 := o1.size
  have hpre : Own .u8 5 w1 w.heap.size (.slice (some ⟨g, 0, none⟩) n cap) l := by
    have h := hv.pre (m := n) (by omega)
    rw [List.take_append_of_le_length (by rw [HLen.out]; exact Nat.le_refl n), List.take_of_length_le (by rw [HLen.out]; exact Nat.le_refl n)] at h
    exact h
  have V1 := hid hv; have QB := hid o1; have VP := hid hpre; clear hv o1 hpre
  go_wp2_with fail
  refine (decAny _ (some ⟨g, 0, none⟩) n cap l ty co re ls er VP.out.rd (by simp) (by omega) HD.out).mono ?_
  rintro x w2 ⟨v2, rfl, hb, o2⟩
  obtain ⟨A2, cap2, ev2, _, _, hr2, _⟩ := hb.slice
  subst ev2
  have HB := hid hb; have R2 := hid hr2; have V1 := hid (V1.out.only_nil o2); have QB := hid (QB.out.trans o2); have hsz2 := o2.size
  clear hb hr2 o2
  go_wp2_with fail
  have O4 : Hid (Ob (w2.alloc (.cells #[.int .i64 ty, .int .i64 co, .int .u32 re, .slice A2 ls.length cap2] 25)) w2.heap.size 25 #[.int .i64 ty, .int .i64 co, .int .u32 re, .slice A2 ls.length cap2]) := hid (Ob.new _ _ _)
  have QB := hid (QB.out.alloc (.cells #[.int .i64 ty, .int .i64 co, .int .u32 re, .slice A2 ls.length cap2] 25)); have V1 := hid (V1.out.alloc (.cells #[.int .i64 ty, .int .i64 co, .int .u32 re, .slice A2 ls.length cap2] 25)); have HB := hid (HB.out.alloc (.cells #[.int .i64 ty, .int .i64 co, .int .u32 re, .slice A2 ls.length cap2] 25))
  refine (rdecAny _ A n c l ty co re ls er (HL.out.only_nil QB.out) hnc (by omega) HD.out).mono ?_
  rintro x w3 ⟨v3, rfl, hb, o3⟩
  obtain ⟨A3, cap3, ev3, _, _, hr3, _⟩ := hb.slice
  subst ev3
  have R3 := hid hr3; have V1 := hid (V1.out.only_nil o3); have QB := hid (QB.out.trans o3); have HB := hid (HB.out.only_nil o3); have O4 := hid (O4.out.only o3 (by simp))
  clear hb hr3 o3
  have k0 := O4.out.cell 0
  have k1 := O4.out.cell 1
  have k2 := O4.out.cell 2
  have k3 := O4.out.cell 3
  have hlt4 := O4.out.lt
  go_wp2_with fail
  clear k0 k1 k2 k3
  have hA3 : ls.length ≤ 70000 := by have := HLS.out; have := HLen.out; omega
  refine (messages1 _ ty co re A2 A3 ls.length cap2 ls.length cap3 ls (by exact HB.out.rd.only_nil ((Only.refl [] w3).alloc _)) (by exact R3.out.only_nil ((Only.refl [] w3).alloc _)) hA3 hA3).mono ?_
  rintro x w4 ⟨rfl, o4⟩
  have o4' : Only [] w3 w4 := ((Only.refl [] w3).alloc _).trans o4
  have V1 := hid (V1.out.only_nil o4'); have QB := hid (QB.out.trans o4'); have HB := hid (HB.out.only_nil o4'); have O4 := hid (O4.out.only o4' (by simp)); have hsz4 := o4'.size
  clear o4 o4'
  have k3 := O4.out.cell 3
  go_wp2_with fail
  clear k3
  refine (hlp.spoil _ w1.heap.size _ ls HB.out (by omega) (by omega)).mono ?_
  rintro x w5 ⟨rfl, b5⟩
  have V1 := hid (V1.out.below b5 (by intro k hk; simp [Value.ownBlock] at hk; omega)); have QB := hid (only_below' QB.out b5 (by omega))
  clear b5
  go_wp2_with fail
  refine (hlp.stands _ _ A n cap c l (by exact V1.out.rd) (by omega) (HL.out.only_nil QB.out) (by omega)).mono ?_
  rintro x w6 ⟨rfl, m6, rfl⟩
  go_wp2_with fail
  refine (known _).mono ?_
  rintro x w7 ⟨rfl, o7⟩
  have Q7 := hid ((QB.out.drewN _).trans o7); clear o7
  go_wp2
  go_ret
  exact ⟨rfl, Q7.out⟩
theorem decodes (w : World) (A : Option Addr) (n c : Nat) (l : List Int) (hl : Rd .u8 w A n l) (hc0 : A = none → c = 0) (hnc : n ≤ c) :
    Calls Try.prog 4 #[.slice A n c] w fun x w' => x = .returned (.bool true) ∧ Only [] w w' := by
  by_cases hn : n ≤ 4000
  · exact decodesIn w A n c l hl hc0 hnc hn
  · have h : 4000 < n := by omega
    go_enter Try.func4, Try.ntmps4
    go_wp2
    go_ret
    exact ⟨rfl, Only.refl _ _⟩
end Go.Proofs.Ytekanilgeigddaa.icm
