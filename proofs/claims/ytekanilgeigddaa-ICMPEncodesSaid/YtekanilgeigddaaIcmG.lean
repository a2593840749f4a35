/-
  Chapter 9 (icmp): the document's Encode, by a walk of its text. Conditions: none but those typed.
-/
import Derived.Test.YtekanilgeigddaaIcmA
import Derived.Test.YtekanilgeigddaaRef9
import Derived.Test.YtekanilgeigddaaHlp9
import Derived.Deep.RegionHeld3
import Derived.Outline
namespace Go.Proofs.Ytekanilgeigddaa.icm
set_option linter.unusedVariables false
set_option linter.unusedSimpArgs false
open Go.ChangeShapes Go.WideShapes Go.ChangeAt Go.RowKit Go.IntWalk Go.Lib
theorem enc_sets (ty co re : Int) (l : List Int) (s : Int) : ((([ty % 256, co % 256, 0, 0] ++ ref.four re ++ l).set 2 (s / 256 % 256)).set 3 (s % 256)) = msg ty co s re l := by
  simp [msg, ref.four]
theorem enc_zero (ty co re : Int) (l : List Int) : [ty % 256, co % 256, 0, 0] ++ ref.four re ++ l = msg ty co 0 re l := by
  simp [msg, ref.four]
set_option maxHeartbeats 4000000 in
theorem renc1 (w : World) (ty co re : Int) (A : Option Addr) (n c : Nat) (l : List Int) (hl : Rd .u8 w A n l) (hc0 : A = none → c = 0) (hn : n ≤ 65507) (ht : 0 ≤ ty ∧ ty ≤ 255) (hco : 0 ≤ co ∧ co ≤ 255) :
    Calls Try.prog 12 #[.agg #[.int .i64 ty, .int .i64 co, .int .u32 re, .slice A n c]] w fun x w' => ∃ v, x = .returned (.tuple #[v, .int .i64 0]) ∧ Own .u8 5 w' w.heap.size v (enc ty co re l) ∧ Only [] w w' := by
  have HLen := hid hl.len
  have HL := hid hl; clear hl
  have HC := hid hc0; clear hc0
  have j1 : ty % 256 = ty := by omega
  have j2 : co % 256 = co := by omega
  have OB : Hid (Ob ((w.alloc (.cells #[.int .i64 ty, .int .i64 co, .int .u32 re, .slice A n c] 25)).alloc (.cells #[.int .u8 ty, .int .u8 co, .int .u8 0, .int .u8 0] 5)).drew w.heap.size 25 #[.int .i64 ty, .int .i64 co, .int .u32 re, .slice A n c]) := hid ((Ob.new _ _ _).alloc _).drew
  have V0 : Hid (Own .u8 5 ((w.alloc (.cells #[.int .i64 ty, .int .i64 co, .int .u32 re, .slice A n c] 25)).alloc (.cells #[.int .u8 ty, .int .u8 co, .int .u8 0, .int .u8 0] 5)).drew (w.heap.size + 1) (.slice (some ⟨w.heap.size + 1, 0, none⟩) 4 4) [ty, co, 0, 0]) := hid (by
    have := Own.lit .u8 5 (w.alloc (.cells #[.int .i64 ty, .int .i64 co, .int .u32 re, .slice A n c] 25)) (w.heap.size + 1) [ty, co, 0, 0] #[.int .u8 ty, .int .u8 co, .int .u8 0, .int .u8 0] 4 rfl rfl (by simp) (by simp [maxLen]) (by intro z hz; simp at hz; apply hlp.u8wf; omega)
    simpa using this.drew)
  have QB : Hid (Only [] w ((w.alloc (.cells #[.int .i64 ty, .int .i64 co, .int .u32 re, .slice A n c] 25)).alloc (.cells #[.int .u8 ty, .int .u8 co, .int .u8 0, .int .u8 0] 5)).drew) := hid (((Only.refl [] w).alloc _).alloc _).drew
  go_enter Try.func12, Try.ntmps12
  go_wp2_with fail
  clear j1 j2
  go_region_held3 (fun w' => w'.cell? ⟨w.heap.size, 2, none⟩ = some (.int .u32 re) ∧ w'.cell? ⟨w.heap.size, 3, none⟩ = some (.slice A n c)) (go_keep) (first
    | (go_at_call 32; refine (ref.four1 _ re).mono ?_; rintro x w1 ⟨g1, rfl, hv1, o1⟩; have sz := QB.out.size; have OB := hid (OB.out.only o1 (by simp)); have V0 := hid (V0.out.only_nil o1); have QB := hid (QB.out.trans o1); have F1 := hid hv1.rd; clear hv1 o1 sz; have k2 := OB.out.cell 2; have k3 := OB.out.cell 3)
    | (refine step_app _ rfl (.tmp 35) (.tmp 38) _ rfl hlp.elemB (w.heap.size + 1) _ [ty, co, 0, 0] rfl V0.out (some ⟨g1, 0, none⟩) 4 4 (ref.four re) rfl F1.out ?a1 ?a2 ?a3 ?a4 ?_; (case a1 => simp); (case a2 => simp); (case a3 => simp [maxLen]); (case a4 => have q1 := V0.out.base_le; omega); intro v1 w2 hv2 hg2 hb2; have V1 := hid hv2; have OB := hid (OB.out.grown hg2 (V0.out.ne_low (by omega))); have QB := hid (QB.out.own_grown V0.out hg2 (by omega)); clear hv2 hg2 hb2; have k2 := OB.out.cell 2; have k3 := OB.out.cell 3)
    | (refine step_app _ rfl (.tmp 39) (.tmp 41) _ rfl hlp.elemB (w.heap.size + 1) _ _ rfl V1.out A n c l rfl (HL.out.only_nil QB.out) HC.out ?d2 ?d3 ?d4 ?_; (case d2 => simp [ref.four]; omega); (case d3 => simp [ref.four, maxLen]; omega); (case d4 => have q1 := OB.out.lt; omega); intro v2 w3 hv3 hg3 hb3; have V2 := hid hv3; have OB := hid (OB.out.grown hg3 (V1.out.ne_low (by omega))); have QB := hid (QB.out.own_grown V1.out hg3 (by omega)); clear hv3 hg3 hb3; have k2 := OB.out.cell 2; have k3 := OB.out.cell 3))
  clear k2 k3
  have HZ := hid (enc_zero ty co re l)
  have ht2 : [ty, co, 0, 0] ++ ref.four re ++ l = msg ty co 0 re l := by
    have := HZ.out
    rw [show ty % 256 = ty from by omega, show co % 256 = co from by omega] at this
    exact this
  rw [ht2] at V2
  have hML : (msg ty co 0 re l).length = 8 + n := by simp [msg, HLen.out]; omega
  obtain ⟨g, cap, e2⟩ := V2.out.some_form (by rw [hML]; omega)
  rw [hML] at e2
  subst e2
  have HW := V2.out.2
  have hsb : 0 ≤ oct.sumF (msg ty co 0 re l) ∧ oct.sumF (msg ty co 0 re l) ≤ 65535 := by
    have := oct.F_bd (oct.ws (msg ty co 0 re l)) (oct.ws_bd _ (fun z hz => u8Bd (HW z hz))).1
    unfold oct.sumF; omega
  have HE : Hid (enc ty co re l = ((msg ty co 0 re l).set 2 (oct.sumF (msg ty co 0 re l) / 256 % 256)).set 3 (oct.sumF (msg ty co 0 re l) % 256)) := hid (by
    unfold enc
    rw [← enc_sets, enc_zero])
  have HSB := hid hsb; clear hsb HW ht2
  have hML2 := hid hML; clear hML
  go_wp2_with fail
  refine (oct.sum2 w3 _ (8 + n) cap _ V2.out.rd (by omega)).mono ?_
  rintro x w4 ⟨rfl, m4, rfl⟩
  have V3 := hid (V2.out.drewN m4); have QB := hid (QB.out.drewN m4)
  obtain ⟨hs1, hs2⟩ := HSB.out
  generalize oct.sumF (msg ty co 0 re l) = s at *
  have c2 := V3.out.cellD 2 (by omega)
  have f2 := V3.out.frozen 2
  have hk : s / 256 % 256 = s / 256 := by omega
  have HK := hid hk; clear hk
  have hlow := V3.out.base_le.1
  have V4 := hid (V3.out.set 2 (s / 256) (hlp.u8wf (by omega)))
  have c3 := V4.out.cellD 3 (by omega)
  have f3 := V4.out.frozen 3
  have V5 := hid (V4.out.set 3 (s % 256) (hlp.u8wf (by omega)))
  have Q5 := hid ((QB.out.setCell (p := ⟨g, 2, none⟩) (Or.inr (by simp; omega)) (.int .u8 (s / 256))).setCell (p := ⟨g, 3, none⟩) (Or.inr (by simp; omega)) (.int .u8 (s % 256)))
  rw [HK.out] at HE
  go_wp2
  go_ret2
  exact ⟨_, rfl, by rw [HE.out]; exact V5.out.mono_base (by omega), Q5.out⟩
end Go.Proofs.Ytekanilgeigddaa.icm
