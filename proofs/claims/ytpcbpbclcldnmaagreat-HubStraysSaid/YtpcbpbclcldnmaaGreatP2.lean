/-
  HubStrays: a segment that is nobody's is answered with Rst, a Rst never, and nothing is kept of either, by a run of each path in a small memory.
-/
import Derived.Test.YtpcbpbclcldnmaaGreatEvR18m
import Derived.Test.YtpcbpbclcldnmaaGreatArg
import Derived.Test.YtpcbpbclcldnmaaGreatJoi
import Derived.Test.YtpcbpbclcldnmaaGreatSiz
import Derived.Test.YtpcbpbclcldnmaaGreatRows
import Derived.WalkKit
import Derived.ProofKit
import Derived.OpenShut
import Derived.ShutString
import Derived.ChangeOld
import Derived.Below
namespace Go.Proofs.YtpcbpbclcldnmaaGreat.hubStrays
open Go.ChangeShapes Go.WideShapes Go.ChangeAt Go.RowKit
open Go.ChangeMaps (open_string shut_string)
set_option linter.unusedVariables false
theorem own : ownKnob Tryz.prog.godebug = none := by kernel_rfl
theorem laidOut : laidOutB Tryz.prog = true := by kernel_rfl
set_option maxRecDepth 100000 in
theorem lifted (os : Os) (started : os.Started) (H : Type) (enc : TypeId × Value → H) :
    ReturnsInHanded {} Tryz.checked os 7 .any (Rows.hubStraysSpec.pre6 enc Tryz.prog Tryz.f7 Rows.hubStraysRow.domain false) (Rows.hubStraysSpec.post enc Tryz.prog Tryz.f7 false true false false) := by
  refine returnsInHanded_of_change_sized (C := Tryz.checked) own started (by kernel_rfl) Tryz.func7
    (ChangeSpec.witness6 (enc := enc) (C := Tryz.checked) false ⟨#[], #[.agg #[.int .u32 0, .int .i64 0, .int .u32 0, .int .i64 0, .int .u32 0, .int .u32 0, .int .i64 0, .int .i64 0, .int .i64 0, .int .i64 0, .slice none 0 0]], []⟩ 8 (by kernel_rfl) (by kernel_rfl) (by kernel_rfl) (by kernel_rfl)) ?_
  intro W base args ds gs before hval0 hW hcnd hsz _
  have hval : ∀ (j : Nat) t v, Tryz.f7.params[j]? = some t → args[j]? = some v → Value.okWide Tryz.prog W .any base t v := hval0
  have hW' := hW
  obtain ⟨p, q, hA0, hV, rfl, hfz, hnd⟩ := hW
  have hA : DataW.TrodAll enc Tryz.prog W 0 (fun _ => true) true Tryz.f7.params.toList args.toList ds p := hA0
  rw [Tryz.params7] at hA hval
  obtain ⟨v0, vs0, d0, ds0, p0, q0, hargs, rfl, rfl, h0, r0⟩ := trodAll_cons hA
  obtain ⟨rfl, rfl, rfl⟩ := trodAll_nil r0
  obtain rfl : args = #[v0] := by cases args; simp_all
  obtain ⟨rfl, rfl⟩ := trodVars_none hV
  have k0 := h0
  have lt0 : ∀ x ∈ p0, x.block < W.heap.size := by obtain ⟨m, hm⟩ := k0; exact DataW.trod_lt m _ _ _ hm
  obtain ⟨⟨l0⟩, rfl, _⟩ := okWide_struct Tryz.underlying28 (hval 0 28 v0 rfl rfl)
  have g0 := arg_kinds hsz (j := 0) rfl rfl 8 (show kindsOf Tryz.prog 8 28 = some [.int .u32, .int .i64, .int .u32, .int .i64, .int .u32, .int .u32, .int .i64, .int .i64, .int .i64, .int .i64, .slice [.int .u8] (Tryz.prog.bytesOf 5)] from by kernel_rfl) k0
  have gg0_0 : CK.all W _ l0 := g0
  clear g0
  obtain ⟨u0_0, l0_0, rfl, h0_0, gg0_1⟩ := CK.all_cons gg0_0
  clear gg0_0
  obtain ⟨a0_0, rfl, w0_0⟩ := CK.int_of h0_0
  obtain ⟨u0_1, l0_1, rfl, h0_1, gg0_2⟩ := CK.all_cons gg0_1
  clear gg0_1
  obtain ⟨a0_1, rfl, w0_1⟩ := CK.int_of h0_1
  obtain ⟨u0_2, l0_2, rfl, h0_2, gg0_3⟩ := CK.all_cons gg0_2
  clear gg0_2
  obtain ⟨a0_2, rfl, w0_2⟩ := CK.int_of h0_2
  obtain ⟨u0_3, l0_3, rfl, h0_3, gg0_4⟩ := CK.all_cons gg0_3
  clear gg0_3
  obtain ⟨a0_3, rfl, w0_3⟩ := CK.int_of h0_3
  obtain ⟨u0_4, l0_4, rfl, h0_4, gg0_5⟩ := CK.all_cons gg0_4
  clear gg0_4
  obtain ⟨a0_4, rfl, w0_4⟩ := CK.int_of h0_4
  obtain ⟨u0_5, l0_5, rfl, h0_5, gg0_6⟩ := CK.all_cons gg0_5
  clear gg0_5
  obtain ⟨a0_5, rfl, w0_5⟩ := CK.int_of h0_5
  obtain ⟨u0_6, l0_6, rfl, h0_6, gg0_7⟩ := CK.all_cons gg0_6
  clear gg0_6
  obtain ⟨a0_6, rfl, w0_6⟩ := CK.int_of h0_6
  obtain ⟨u0_7, l0_7, rfl, h0_7, gg0_8⟩ := CK.all_cons gg0_7
  clear gg0_7
  obtain ⟨a0_7, rfl, w0_7⟩ := CK.int_of h0_7
  obtain ⟨u0_8, l0_8, rfl, h0_8, gg0_9⟩ := CK.all_cons gg0_8
  clear gg0_8
  obtain ⟨a0_8, rfl, w0_8⟩ := CK.int_of h0_8
  obtain ⟨u0_9, l0_9, rfl, h0_9, gg0_10⟩ := CK.all_cons gg0_9
  clear gg0_9
  obtain ⟨a0_9, rfl, w0_9⟩ := CK.int_of h0_9
  obtain ⟨u0_10, l0_10, rfl, h0_10, gg0_11⟩ := CK.all_cons gg0_10
  clear gg0_10
  obtain ⟨a0_10, len0_10, cap0_10, z0_10, rfl, w0_10, b0_10⟩ := CK.ints h0_10
  obtain rfl := CK.all_nil gg0_11
  clear hA0 hval0
  refine Calls.mono (ev.HubStraysAll _ a0_10 len0_10 cap0_10 z0_10 w0_10 a0_0 a0_1 a0_2 a0_3 a0_4 a0_5 a0_6 a0_7 a0_8 a0_9 (ev.bd_u32 w0_0) (ev.bd_i64 w0_1) (ev.bd_u32 w0_2) (ev.bd_i64 w0_3) (ev.bd_u32 w0_4) (ev.bd_u32 w0_5) (ev.bd_i64 w0_6) (ev.bd_i64 w0_7) (ev.bd_i64 w0_8) (ev.bd_i64 w0_9)) ?_
  rintro e W' ⟨he, bel0⟩
  have bel : Below W.heap.size W W' := bel0.below_nil
  subst he
  exact ⟨_, rfl, _, _, _, [], _, [], hW', trodAll_mk1 (shut_bool Tryz.underlying4 _), (trodAll_cons_mk (Below.trod laidOut (by kernel_rfl) (of_decide_eq_true (by kernel_rfl)) k0 bel lt0) trodAll_mk0), rfl, bel.frame _, fun h => by cases h⟩
set_option maxHeartbeats 4000000 in
theorem over : Rows.hubStraysRow.holds Tryz.pinned (OpenSpec.ofChange Rows.hubStraysSpec) :=
  OpenClaim.holds_of_wide 7 Tryz.f7 rfl rfl rfl rfl rfl rfl rfl ⟨rfl, rfl, rfl, rfl, rfl⟩ rfl rfl rfl rfl rfl (by as_aux_lemma => kernel_rfl) Tryz.func7 (joined_of (by as_aux_lemma => kernel_rfl) (by as_aux_lemma => kernel_rfl) (by as_aux_lemma => kernel_rfl) (by as_aux_lemma => kernel_rfl) (by as_aux_lemma => kernel_rfl) (by as_aux_lemma => kernel_rfl) (by as_aux_lemma => kernel_rfl) (by as_aux_lemma => kernel_rfl) (by as_aux_lemma => kernel_rfl) (by as_aux_lemma => kernel_rfl) (by as_aux_lemma => kernel_rfl) (by as_aux_lemma => kernel_rfl) (by as_aux_lemma => kernel_rfl) (by as_aux_lemma => kernel_rfl) (by as_aux_lemma => kernel_rfl) (by as_aux_lemma => kernel_rfl) (by as_aux_lemma => kernel_rfl) (by as_aux_lemma => kernel_rfl) (by as_aux_lemma => kernel_rfl) (by as_aux_lemma => kernel_rfl) (by as_aux_lemma => kernel_rfl) (by as_aux_lemma => kernel_rfl) (by as_aux_lemma => kernel_rfl) (by as_aux_lemma => kernel_rfl) (by as_aux_lemma => kernel_rfl) (by as_aux_lemma => kernel_rfl) (by as_aux_lemma => kernel_rfl) (by as_aux_lemma => kernel_rfl) (by as_aux_lemma => kernel_rfl) (by as_aux_lemma => kernel_rfl) (by as_aux_lemma => kernel_rfl) (by as_aux_lemma => kernel_rfl))
    (of_decide_eq_true (by as_aux_lemma => kernel_rfl)) (by unfold Func.isWrapper; first | (rw [if_pos (by decide +kernel)]; kernel_rfl) | (rw [if_neg (by decide +kernel)]; exact ⟨rfl, rfl⟩))
    (fun os started H enc _ => lifted os started H enc)
theorem proved : Rows.HubStraysSaid := over
#print axioms proved
end Go.Proofs.YtpcbpbclcldnmaaGreat.hubStrays
