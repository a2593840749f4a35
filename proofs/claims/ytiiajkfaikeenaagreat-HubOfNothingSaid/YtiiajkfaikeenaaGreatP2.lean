/-
  HubOfNothing: a nil Hub has no connection: whatever the input, the law returns true and leaves its argument as it was, by a walk of each text. Conditions: none of ours.
-/
import Derived.Test.YtiiajkfaikeenaaGreatHubL
import Derived.Test.YtiiajkfaikeenaaGreatArg
import Derived.Test.YtiiajkfaikeenaaGreatJoi
import Derived.Test.YtiiajkfaikeenaaGreatSiz
import Derived.Test.YtiiajkfaikeenaaGreatRows
import Derived.WalkKit
import Derived.ProofKit
import Derived.OpenShut
import Derived.ShutString
import Derived.ChangeOld
import Derived.Below
namespace Go.Proofs.YtiiajkfaikeenaaGreat.hubOfNothing
open Go.ChangeShapes Go.WideShapes Go.ChangeAt Go.RowKit
open Go.ChangeMaps (open_string shut_string)
set_option linter.unusedVariables false
theorem own : ownKnob Tryz.prog.godebug = none := by kernel_rfl
theorem laidOut : laidOutB Tryz.prog = true := by kernel_rfl
set_option maxRecDepth 100000 in
theorem lifted (os : Os) (started : os.Started) (H : Type) (enc : TypeId × Value → H) :
    ReturnsInHanded {} Tryz.checked os 3 .any (Rows.hubOfNothingSpec.pre6 enc Tryz.prog Tryz.f3 Rows.hubOfNothingRow.domain false) (Rows.hubOfNothingSpec.post enc Tryz.prog Tryz.f3 false true false false) := by
  refine returnsInHanded_of_change_sized (C := Tryz.checked) own started (by kernel_rfl) Tryz.func3
    (ChangeSpec.witness6 (enc := enc) (C := Tryz.checked) false ⟨#[], #[.agg #[.int .i64 0, .int .i64 0, .int .i64 0, .int .i64 0, .int .i64 0, .int .u32 0, .slice none 0 0, .int .u32 0, .int .i64 0, .int .u32 0, .int .i64 0, .int .u32 0, .int .i64 0, .int .i64 0, .int .i64 0, .int .i64 0, .bool false, .int .i64 0, .int .u32 0, .int .i64 0, .int .u32 0, .int .i64 0, .int .u32 0, .int .u32 0, .int .i64 0, .int .i64 0, .int .i64 0, .int .i64 0, .slice none 0 0], .int .i64 0], []⟩ 8 (by kernel_rfl) (by kernel_rfl) (by kernel_rfl) (by kernel_rfl)) ?_
  intro W base args ds gs before hval0 hW hcnd hsz _
  have hval : ∀ (j : Nat) t v, Tryz.f3.params[j]? = some t → args[j]? = some v → Value.okWide Tryz.prog W .any base t v := hval0
  have hW' := hW
  obtain ⟨p, q, hA0, hV, rfl, hfz, hnd⟩ := hW
  have hA : DataW.TrodAll enc Tryz.prog W 0 (fun _ => true) true Tryz.f3.params.toList args.toList ds p := hA0
  rw [Tryz.params3] at hA hval
  obtain ⟨v0, vs0, d0, ds0, p0, q0, hargs, rfl, rfl, h0, r0⟩ := trodAll_cons hA
  obtain ⟨v1, vs1, d1, ds1, p1, q1, rfl, rfl, rfl, h1, r1⟩ := trodAll_cons r0
  obtain ⟨rfl, rfl, rfl⟩ := trodAll_nil r1
  obtain rfl : args = #[v0, v1] := by cases args; simp_all
  obtain ⟨rfl, rfl⟩ := trodVars_none hV
  have k0 := h0
  have lt0 : ∀ x ∈ p0, x.block < W.heap.size := by obtain ⟨m, hm⟩ := k0; exact DataW.trod_lt m _ _ _ hm
  obtain ⟨⟨l0⟩, rfl, _⟩ := okWide_struct Tryz.underlying30 (hval 0 30 v0 rfl rfl)
  have g0 := arg_kinds hsz (j := 0) rfl rfl 8 (show kindsOf Tryz.prog 8 30 = some [.int .i64, .int .i64, .int .i64, .int .i64, .int .i64, .int .u32, .slice [.int .u8] (Tryz.prog.bytesOf 5), .int .u32, .int .i64, .int .u32, .int .i64, .int .u32, .int .i64, .int .i64, .int .i64, .int .i64, .bool, .int .i64, .int .u32, .int .i64, .int .u32, .int .i64, .int .u32, .int .u32, .int .i64, .int .i64, .int .i64, .int .i64, .slice [.int .u8] (Tryz.prog.bytesOf 5)] from by kernel_rfl) k0
  have gg0_0 : CK.all W _ l0 := g0
  clear g0
  obtain ⟨u0_0, l0_0, rfl, h0_0, gg0_1⟩ := CK.all_cons gg0_0
  clear gg0_0
  obtain ⟨a0_0, rfl, w0_0⟩ := CK.int_of h0_0
  obtain ⟨u0_1, l0_1, rfl, h0_1, gg0_2⟩ := CK.all_cons gg0_1
  clear gg0_1
  obtain ⟨a0_1, rfl, w0_1⟩ := CK.int_of h0_1
  obtain ⟨u0_2, l0_2, rfl, h0_2, gg0_3⟩ := CK.all_cons gg0_2
  clear gg0_2
  obtain ⟨a0_2, rfl, w0_2⟩ := CK.int_of h0_2
  obtain ⟨u0_3, l0_3, rfl, h0_3, gg0_4⟩ := CK.all_cons gg0_3
  clear gg0_3
  obtain ⟨a0_3, rfl, w0_3⟩ := CK.int_of h0_3
  obtain ⟨u0_4, l0_4, rfl, h0_4, gg0_5⟩ := CK.all_cons gg0_4
  clear gg0_4
  obtain ⟨a0_4, rfl, w0_4⟩ := CK.int_of h0_4
  obtain ⟨u0_5, l0_5, rfl, h0_5, gg0_6⟩ := CK.all_cons gg0_5
  clear gg0_5
  obtain ⟨a0_5, rfl, w0_5⟩ := CK.int_of h0_5
  obtain ⟨u0_6, l0_6, rfl, h0_6, gg0_7⟩ := CK.all_cons gg0_6
  clear gg0_6
  obtain ⟨a0_6, len0_6, cap0_6, z0_6, rfl, w0_6, b0_6⟩ := CK.ints h0_6
  obtain ⟨u0_7, l0_7, rfl, h0_7, gg0_8⟩ := CK.all_cons gg0_7
  clear gg0_7
  obtain ⟨a0_7, rfl, w0_7⟩ := CK.int_of h0_7
  obtain ⟨u0_8, l0_8, rfl, h0_8, gg0_9⟩ := CK.all_cons gg0_8
  clear gg0_8
  obtain ⟨a0_8, rfl, w0_8⟩ := CK.int_of h0_8
  obtain ⟨u0_9, l0_9, rfl, h0_9, gg0_10⟩ := CK.all_cons gg0_9
  clear gg0_9
  obtain ⟨a0_9, rfl, w0_9⟩ := CK.int_of h0_9
  obtain ⟨u0_10, l0_10, rfl, h0_10, gg0_11⟩ := CK.all_cons gg0_10
  clear gg0_10
  obtain ⟨a0_10, rfl, w0_10⟩ := CK.int_of h0_10
  obtain ⟨u0_11, l0_11, rfl, h0_11, gg0_12⟩ := CK.all_cons gg0_11
  clear gg0_11
  obtain ⟨a0_11, rfl, w0_11⟩ := CK.int_of h0_11
  obtain ⟨u0_12, l0_12, rfl, h0_12, gg0_13⟩ := CK.all_cons gg0_12
  clear gg0_12
  obtain ⟨a0_12, rfl, w0_12⟩ := CK.int_of h0_12
  obtain ⟨u0_13, l0_13, rfl, h0_13, gg0_14⟩ := CK.all_cons gg0_13
  clear gg0_13
  obtain ⟨a0_13, rfl, w0_13⟩ := CK.int_of h0_13
  obtain ⟨u0_14, l0_14, rfl, h0_14, gg0_15⟩ := CK.all_cons gg0_14
  clear gg0_14
  obtain ⟨a0_14, rfl, w0_14⟩ := CK.int_of h0_14
  obtain ⟨u0_15, l0_15, rfl, h0_15, gg0_16⟩ := CK.all_cons gg0_15
  clear gg0_15
  obtain ⟨a0_15, rfl, w0_15⟩ := CK.int_of h0_15
  obtain ⟨u0_16, l0_16, rfl, h0_16, gg0_17⟩ := CK.all_cons gg0_16
  clear gg0_16
  obtain ⟨a0_16, rfl⟩ := CK.bool_of h0_16
  obtain ⟨u0_17, l0_17, rfl, h0_17, gg0_18⟩ := CK.all_cons gg0_17
  clear gg0_17
  obtain ⟨a0_17, rfl, w0_17⟩ := CK.int_of h0_17
  obtain ⟨u0_18, l0_18, rfl, h0_18, gg0_19⟩ := CK.all_cons gg0_18
  clear gg0_18
  obtain ⟨a0_18, rfl, w0_18⟩ := CK.int_of h0_18
  obtain ⟨u0_19, l0_19, rfl, h0_19, gg0_20⟩ := CK.all_cons gg0_19
  clear gg0_19
  obtain ⟨a0_19, rfl, w0_19⟩ := CK.int_of h0_19
  obtain ⟨u0_20, l0_20, rfl, h0_20, gg0_21⟩ := CK.all_cons gg0_20
  clear gg0_20
  obtain ⟨a0_20, rfl, w0_20⟩ := CK.int_of h0_20
  obtain ⟨u0_21, l0_21, rfl, h0_21, gg0_22⟩ := CK.all_cons gg0_21
  clear gg0_21
  obtain ⟨a0_21, rfl, w0_21⟩ := CK.int_of h0_21
  obtain ⟨u0_22, l0_22, rfl, h0_22, gg0_23⟩ := CK.all_cons gg0_22
  clear gg0_22
  obtain ⟨a0_22, rfl, w0_22⟩ := CK.int_of h0_22
  obtain ⟨u0_23, l0_23, rfl, h0_23, gg0_24⟩ := CK.all_cons gg0_23
  clear gg0_23
  obtain ⟨a0_23, rfl, w0_23⟩ := CK.int_of h0_23
  obtain ⟨u0_24, l0_24, rfl, h0_24, gg0_25⟩ := CK.all_cons gg0_24
  clear gg0_24
  obtain ⟨a0_24, rfl, w0_24⟩ := CK.int_of h0_24
  obtain ⟨u0_25, l0_25, rfl, h0_25, gg0_26⟩ := CK.all_cons gg0_25
  clear gg0_25
  obtain ⟨a0_25, rfl, w0_25⟩ := CK.int_of h0_25
  obtain ⟨u0_26, l0_26, rfl, h0_26, gg0_27⟩ := CK.all_cons gg0_26
  clear gg0_26
  obtain ⟨a0_26, rfl, w0_26⟩ := CK.int_of h0_26
  obtain ⟨u0_27, l0_27, rfl, h0_27, gg0_28⟩ := CK.all_cons gg0_27
  clear gg0_27
  obtain ⟨a0_27, rfl, w0_27⟩ := CK.int_of h0_27
  obtain ⟨u0_28, l0_28, rfl, h0_28, gg0_29⟩ := CK.all_cons gg0_28
  clear gg0_28
  obtain ⟨a0_28, len0_28, cap0_28, z0_28, rfl, w0_28, b0_28⟩ := CK.ints h0_28
  obtain rfl := CK.all_nil gg0_29
  obtain ⟨a1, rfl, rfl, rfl, w1⟩ := open_int Tryz.underlying3 (hval 1 3 v1 rfl rfl) h1
  clear hA0 hval0
  refine Calls.mono (hub.ofNothing W a0_0 a0_1 a0_2 a0_3 a0_4 a0_5 a0_6 len0_6 cap0_6 a0_7 a0_8 a0_9 a0_10 a0_11 a0_12 a0_13 a0_14 a0_15 a0_17 a0_16 a0_18 a0_20 a0_22 a0_23 a0_19 a0_21 a0_24 a0_25 a0_26 a0_27 a0_28 len0_28 cap0_28 _ (Go.Lib.hid rfl) a1 _ (Rd.of_row w0_28) (IsRow.none_cap w0_28) (by have h : cap0_6 * 1 ≤ 140737488351232 := b0_6; have h2 := w0_6.len_le.1; omega) (by have h : cap0_28 * 1 ≤ 140737488351232 := b0_28; have h2 := w0_28.len_le.1; omega) ((Lit.wf_int_iff .i64 _).1 w0_13) ((Lit.wf_int_iff .i64 _).1 w0_14)) ?_
  rintro e W' ⟨he, bel0⟩
  have bel : Below W.heap.size W W' := bel0.below_nil
  subst he
  exact ⟨_, rfl, _, _, _, [], _, [], hW', trodAll_mk1 (shut_bool Tryz.underlying4 _), (trodAll_cons_mk (Below.trod laidOut (by kernel_rfl) (of_decide_eq_true (by kernel_rfl)) k0 bel lt0) (trodAll_cons_mk (shut_int Tryz.underlying3 w1) trodAll_mk0)), rfl, bel.frame _, fun h => by cases h⟩
set_option maxHeartbeats 4000000 in
theorem over : Rows.hubOfNothingRow.holds Tryz.pinned (OpenSpec.ofChange Rows.hubOfNothingSpec) :=
  OpenClaim.holds_of_wide 3 Tryz.f3 rfl rfl rfl rfl rfl rfl rfl ⟨rfl, rfl, rfl, rfl, rfl⟩ rfl rfl rfl rfl rfl (by as_aux_lemma => kernel_rfl) Tryz.func3 (joined_of (by as_aux_lemma => kernel_rfl) (by as_aux_lemma => kernel_rfl) (by as_aux_lemma => kernel_rfl) (by as_aux_lemma => kernel_rfl) (by as_aux_lemma => kernel_rfl) (by as_aux_lemma => kernel_rfl) (by as_aux_lemma => kernel_rfl) (by as_aux_lemma => kernel_rfl) (by as_aux_lemma => kernel_rfl) (by as_aux_lemma => kernel_rfl) (by as_aux_lemma => kernel_rfl) (by as_aux_lemma => kernel_rfl) (by as_aux_lemma => kernel_rfl) (by as_aux_lemma => kernel_rfl) (by as_aux_lemma => kernel_rfl) (by as_aux_lemma => kernel_rfl) (by as_aux_lemma => kernel_rfl) (by as_aux_lemma => kernel_rfl) (by as_aux_lemma => kernel_rfl) (by as_aux_lemma => kernel_rfl) (by as_aux_lemma => kernel_rfl) (by as_aux_lemma => kernel_rfl) (by as_aux_lemma => kernel_rfl) (by as_aux_lemma => kernel_rfl) (by as_aux_lemma => kernel_rfl) (by as_aux_lemma => kernel_rfl) (by as_aux_lemma => kernel_rfl) (by as_aux_lemma => kernel_rfl) (by as_aux_lemma => kernel_rfl) (by as_aux_lemma => kernel_rfl) (by as_aux_lemma => kernel_rfl) (by as_aux_lemma => kernel_rfl))
    (of_decide_eq_true (by as_aux_lemma => kernel_rfl)) (by unfold Func.isWrapper; first | (rw [if_pos (by decide +kernel)]; kernel_rfl) | (rw [if_neg (by decide +kernel)]; exact ⟨rfl, rfl⟩))
    (fun os started H enc _ => lifted os started H enc)
theorem proved : Rows.HubOfNothingSaid := over
#print axioms proved
end Go.Proofs.YtiiajkfaikeenaaGreat.hubOfNothing
