/-
  Chapter 5: a neighbour that was learnt is known for so many ticks, and asked for behind them. Conditions: none but those of the row.
-/
import Derived.Test.YtojechkpkjlgkaaEvL5
import Derived.Test.YtojechkpkjlgkaaEvBd
import Derived.Test.YtojechkpkjlgkaaLib
import Derived.Test.YtojechkpkjlgkaaArg
import Derived.Test.YtojechkpkjlgkaaSiz
import Derived.Test.YtojechkpkjlgkaaRows
import Derived.WalkKit
import Derived.ProofKit
import Derived.OpenShut
import Derived.ShutString
import Derived.ChangeOld
import Derived.Below
namespace Go.Proofs.Ytojechkpkjlgkaa.arpLives
open Go.ChangeShapes Go.WideShapes Go.ChangeAt Go.RowKit
open Go.ChangeMaps (open_string shut_string)
set_option linter.unusedVariables false
theorem own : ownKnob Try.prog.godebug = none := by kernel_rfl
theorem laidOut : laidOutB Try.prog = true := by kernel_rfl
set_option maxRecDepth 100000 in
theorem lifted (os : Os) (started : os.Started) (H : Type) (enc : TypeId × Value → H) :
    ReturnsInHanded {} Try.checked os 10 .any (Rows.arpLivesSpec.pre6 enc Try.prog Try.f10 Rows.arpLivesRow.domain false) (Rows.arpLivesSpec.post enc Try.prog Try.f10 false true false false) := by
  refine returnsInHanded_of_change_sized (C := Try.checked) own started (by kernel_rfl) Try.func10
    (ChangeSpec.witness6 (enc := enc) (C := Try.checked) false ⟨#[], #[.int .u32 0, .agg #[.int .u8 0, .int .u8 0, .int .u8 0, .int .u8 0, .int .u8 0, .int .u8 0], .int .i64 0, .int .i64 0], []⟩ 8 (by kernel_rfl) (by kernel_rfl) (by kernel_rfl) (by kernel_rfl)) ?_
  intro W base args ds gs before hval0 hW hcnd hsz _
  have hval : ∀ (j : Nat) t v, Try.f10.params[j]? = some t → args[j]? = some v → Value.okWide Try.prog W .any base t v := hval0
  have hW' := hW
  obtain ⟨p, q, hA0, hV, rfl, hfz, hnd⟩ := hW
  have hA : DataW.TrodAll enc Try.prog W 0 (fun _ => true) true Try.f10.params.toList args.toList ds p := hA0
  rw [Try.params10] at hA hval
  obtain ⟨v0, vs0, d0, ds0, p0, q0, hargs, rfl, rfl, h0, r0⟩ := trodAll_cons hA
  obtain ⟨v1, vs1, d1, ds1, p1, q1, rfl, rfl, rfl, h1, r1⟩ := trodAll_cons r0
  obtain ⟨v2, vs2, d2, ds2, p2, q2, rfl, rfl, rfl, h2, r2⟩ := trodAll_cons r1
  obtain ⟨v3, vs3, d3, ds3, p3, q3, rfl, rfl, rfl, h3, r3⟩ := trodAll_cons r2
  obtain ⟨rfl, rfl, rfl⟩ := trodAll_nil r3
  obtain rfl : args = #[v0, v1, v2, v3] := by cases args; simp_all
  obtain ⟨rfl, rfl⟩ := trodVars_none hV
  obtain ⟨a0, rfl, rfl, rfl, w0⟩ := open_int Try.underlying25 (hval 0 25 v0 rfl rfl) h0
  have k1 := h1
  have lt1 : ∀ x ∈ p1, x.block < W.heap.size := by obtain ⟨m, hm⟩ := k1; exact DataW.trod_lt m _ _ _ hm
  obtain ⟨⟨l1⟩, rfl, _⟩ := okWide_array Try.underlying23 (hval 1 23 v1 rfl rfl)
  have g1 := arg_kinds hsz (j := 1) rfl rfl 8 (show kindsOf Try.prog 8 23 = some [.int .u8, .int .u8, .int .u8, .int .u8, .int .u8, .int .u8] from by kernel_rfl) k1
  have gg1_0 : CK.all W _ l1 := g1
  clear g1
  obtain ⟨u1_0, l1_0, rfl, h1_0, gg1_1⟩ := CK.all_cons gg1_0
  clear gg1_0
  obtain ⟨a1_0, rfl, w1_0⟩ := CK.int_of h1_0
  obtain ⟨u1_1, l1_1, rfl, h1_1, gg1_2⟩ := CK.all_cons gg1_1
  clear gg1_1
  obtain ⟨a1_1, rfl, w1_1⟩ := CK.int_of h1_1
  obtain ⟨u1_2, l1_2, rfl, h1_2, gg1_3⟩ := CK.all_cons gg1_2
  clear gg1_2
  obtain ⟨a1_2, rfl, w1_2⟩ := CK.int_of h1_2
  obtain ⟨u1_3, l1_3, rfl, h1_3, gg1_4⟩ := CK.all_cons gg1_3
  clear gg1_3
  obtain ⟨a1_3, rfl, w1_3⟩ := CK.int_of h1_3
  obtain ⟨u1_4, l1_4, rfl, h1_4, gg1_5⟩ := CK.all_cons gg1_4
  clear gg1_4
  obtain ⟨a1_4, rfl, w1_4⟩ := CK.int_of h1_4
  obtain ⟨u1_5, l1_5, rfl, h1_5, gg1_6⟩ := CK.all_cons gg1_5
  clear gg1_5
  obtain ⟨a1_5, rfl, w1_5⟩ := CK.int_of h1_5
  obtain rfl := CK.all_nil gg1_6
  obtain ⟨a2, rfl, rfl, rfl, w2⟩ := open_int Try.underlying3 (hval 2 3 v2 rfl rfl) h2
  obtain ⟨a3, rfl, rfl, rfl, w3⟩ := open_int Try.underlying3 (hval 3 3 v3 rfl rfl) h3
  clear hA0 hval0
  refine Calls.mono (ev.arpLives _ a0 a1_0 a1_1 a1_2 a1_3 a1_4 a1_5 a2 a3 (ev.bd_u32 w0).1 (ev.bd_u32 w0).2 (ev.bd_u8 w1_0).1 (ev.bd_u8 w1_0).2 (ev.bd_u8 w1_1).1 (ev.bd_u8 w1_1).2 (ev.bd_u8 w1_2).1 (ev.bd_u8 w1_2).2 (ev.bd_u8 w1_3).1 (ev.bd_u8 w1_3).2 (ev.bd_u8 w1_4).1 (ev.bd_u8 w1_4).2 (ev.bd_u8 w1_5).1 (ev.bd_u8 w1_5).2 (ev.bd_i64 w2).1 (ev.bd_i64 w2).2 (ev.bd_i64 w3).1 (ev.bd_i64 w3).2) ?_
  rintro e W' ⟨he, bel0⟩
  have bel : Below W.heap.size W W' := bel0.below_nil
  subst he
  exact ⟨_, rfl, _, _, _, [], _, [], hW', trodAll_mk1 (shut_bool Try.underlying4 _), (trodAll_cons_mk (shut_int Try.underlying25 w0) (trodAll_cons_mk (Below.trod laidOut (by kernel_rfl) (of_decide_eq_true (by kernel_rfl)) k1 bel lt1) (trodAll_cons_mk (shut_int Try.underlying3 w2) (trodAll_cons_mk (shut_int Try.underlying3 w3) trodAll_mk0)))), rfl, bel.frame _, fun h => by cases h⟩
theorem over : Rows.arpLivesRow.holds Try.pinned (OpenSpec.ofChange Rows.arpLivesSpec) :=
  OpenClaim.holds_of_wide 10 Try.f10 rfl rfl rfl rfl rfl rfl rfl ⟨rfl, rfl, rfl, rfl, rfl⟩ rfl rfl rfl rfl rfl (by kernel_rfl) Try.func10 (by kernel_rfl)
    (of_decide_eq_true (by kernel_rfl)) (by unfold Func.isWrapper; first | (rw [if_pos (by decide +kernel)]; kernel_rfl) | (rw [if_neg (by decide +kernel)]; exact ⟨rfl, rfl⟩))
    (fun os started H enc _ => lifted os started H enc)
theorem proved : Rows.ArpLivesSaid := over
#print axioms proved
end Go.Proofs.Ytojechkpkjlgkaa.arpLives
