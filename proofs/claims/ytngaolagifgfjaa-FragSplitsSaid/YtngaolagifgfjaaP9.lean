/-
  FragSplits: a packet that is too long is cut into pieces that fit, or refused, for every packet and every size. Conditions: none but those of the form itself.
-/
import Derived.Test.YtngaolagifgfjaaFqA
import Derived.Test.YtngaolagifgfjaaArg
import Derived.Test.YtngaolagifgfjaaSiz
import Derived.Test.YtngaolagifgfjaaRows
import Derived.WalkKit
import Derived.ProofKit
import Derived.OpenShut
import Derived.ShutString
import Derived.ChangeOld
import Derived.Below
namespace Go.Proofs.Ytngaolagifgfjaa.fragSplits
open Go.ChangeShapes Go.WideShapes Go.ChangeAt Go.RowKit
open Go.ChangeMaps (open_string shut_string)
set_option linter.unusedVariables false
theorem own : ownKnob Try.prog.godebug = none := by kernel_rfl
theorem laidOut : laidOutB Try.prog = true := by kernel_rfl
set_option maxRecDepth 100000 in
theorem lifted (os : Os) (started : os.Started) (H : Type) (enc : TypeId × Value → H) :
    ReturnsInHanded {} Try.checked os 3 .any (Rows.fragSplitsSpec.pre6 enc Try.prog Try.f3 Rows.fragSplitsRow.domain false) (Rows.fragSplitsSpec.post enc Try.prog Try.f3 false true false false) := by
  refine returnsInHanded_of_change_sized (C := Try.checked) own started (by kernel_rfl) Try.func3
    (ChangeSpec.witness6 (enc := enc) (C := Try.checked) false ⟨#[], #[.agg #[.int .i64 0, .int .i64 0, .bool false, .bool false, .int .i64 0, .int .i64 0, .int .i64 0, .int .u32 0, .int .u32 0, .slice none 0 0, .slice none 0 0], .int .i64 0], []⟩ 8 (by kernel_rfl) (by kernel_rfl) (by kernel_rfl) (by kernel_rfl)) ?_
  intro W base args ds gs before hval0 hW hcnd hsz _
  have hval : ∀ (j : Nat) t v, Try.f3.params[j]? = some t → args[j]? = some v → Value.okWide Try.prog W .any base t v := hval0
  have hW' := hW
  obtain ⟨p, q, hA0, hV, rfl, hfz, hnd⟩ := hW
  have hA : DataW.TrodAll enc Try.prog W 0 (fun _ => true) true Try.f3.params.toList args.toList ds p := hA0
  rw [Try.params3] at hA hval
  obtain ⟨v0, vs0, d0, ds0, p0, q0, hargs, rfl, rfl, h0, r0⟩ := trodAll_cons hA
  obtain ⟨v1, vs1, d1, ds1, p1, q1, rfl, rfl, rfl, h1, r1⟩ := trodAll_cons r0
  obtain ⟨rfl, rfl, rfl⟩ := trodAll_nil r1
  obtain rfl : args = #[v0, v1] := by cases args; simp_all
  obtain ⟨rfl, rfl⟩ := trodVars_none hV
  have k0 := h0
  have lt0 : ∀ x ∈ p0, x.block < W.heap.size := by obtain ⟨m, hm⟩ := k0; exact DataW.trod_lt m _ _ _ hm
  obtain ⟨⟨l0⟩, rfl, _⟩ := okWide_struct Try.underlying26 (hval 0 26 v0 rfl rfl)
  have g0 := arg_kinds hsz (j := 0) rfl rfl 8 (show kindsOf Try.prog 8 26 = some [.int .i64, .int .i64, .bool, .bool, .int .i64, .int .i64, .int .i64, .int .u32, .int .u32, .slice [.int .u8] (Try.prog.bytesOf 5), .slice [.int .u8] (Try.prog.bytesOf 5)] from by kernel_rfl) k0
  have gg0_0 : CK.all W _ l0 := g0
  clear g0
  obtain ⟨u0_0, l0_0, rfl, h0_0, gg0_1⟩ := CK.all_cons gg0_0
  clear gg0_0
  obtain ⟨a0_0, rfl, w0_0⟩ := CK.int_of h0_0
  obtain ⟨u0_1, l0_1, rfl, h0_1, gg0_2⟩ := CK.all_cons gg0_1
  clear gg0_1
  obtain ⟨a0_1, rfl, w0_1⟩ := CK.int_of h0_1
  obtain ⟨u0_2, l0_2, rfl, h0_2, gg0_3⟩ := CK.all_cons gg0_2
  clear gg0_2
  obtain ⟨a0_2, rfl⟩ := CK.bool_of h0_2
  obtain ⟨u0_3, l0_3, rfl, h0_3, gg0_4⟩ := CK.all_cons gg0_3
  clear gg0_3
  obtain ⟨a0_3, rfl⟩ := CK.bool_of h0_3
  obtain ⟨u0_4, l0_4, rfl, h0_4, gg0_5⟩ := CK.all_cons gg0_4
  clear gg0_4
  obtain ⟨a0_4, rfl, w0_4⟩ := CK.int_of h0_4
  obtain ⟨u0_5, l0_5, rfl, h0_5, gg0_6⟩ := CK.all_cons gg0_5
  clear gg0_5
  obtain ⟨a0_5, rfl, w0_5⟩ := CK.int_of h0_5
  obtain ⟨u0_6, l0_6, rfl, h0_6, gg0_7⟩ := CK.all_cons gg0_6
  clear gg0_6
  obtain ⟨a0_6, rfl, w0_6⟩ := CK.int_of h0_6
  obtain ⟨u0_7, l0_7, rfl, h0_7, gg0_8⟩ := CK.all_cons gg0_7
  clear gg0_7
  obtain ⟨a0_7, rfl, w0_7⟩ := CK.int_of h0_7
  obtain ⟨u0_8, l0_8, rfl, h0_8, gg0_9⟩ := CK.all_cons gg0_8
  clear gg0_8
  obtain ⟨a0_8, rfl, w0_8⟩ := CK.int_of h0_8
  obtain ⟨u0_9, l0_9, rfl, h0_9, gg0_10⟩ := CK.all_cons gg0_9
  clear gg0_9
  obtain ⟨a0_9, len0_9, cap0_9, z0_9, rfl, w0_9, b0_9⟩ := CK.ints h0_9
  obtain ⟨u0_10, l0_10, rfl, h0_10, gg0_11⟩ := CK.all_cons gg0_10
  clear gg0_10
  obtain ⟨a0_10, len0_10, cap0_10, z0_10, rfl, w0_10, b0_10⟩ := CK.ints h0_10
  obtain rfl := CK.all_nil gg0_11
  obtain ⟨a1, rfl, rfl, rfl, w1⟩ := open_int Try.underlying3 (hval 1 3 v1 rfl rfl) h1
  clear hA0 hval0
  refine Calls.mono (ip.splits _ a0_0 a0_1 a0_2 a0_3 a0_4 a0_5 a0_6 a0_7 a0_8 a0_9 len0_9 cap0_9 a0_10 len0_10 cap0_10 _ _ a1 (Rd.of_row w0_9) w0_9.none_cap w0_9.len_le.1 w0_9.len_le.2 (Rd.of_row w0_10) w0_10.none_cap w0_10.len_le.1 w0_10.len_le.2) ?_
  rintro e W' ⟨he, bel0⟩
  have bel : Below W.heap.size W W' := bel0.below_nil
  subst he
  exact ⟨_, rfl, _, _, _, [], _, [], hW', trodAll_mk1 (shut_bool Try.underlying4 _), (trodAll_cons_mk (Below.trod laidOut (by kernel_rfl) (of_decide_eq_true (by kernel_rfl)) k0 bel lt0) (trodAll_cons_mk (shut_int Try.underlying3 w1) trodAll_mk0)), rfl, bel.frame _, fun h => by cases h⟩
theorem over : Rows.fragSplitsRow.holds Try.pinned (OpenSpec.ofChange Rows.fragSplitsSpec) :=
  OpenClaim.holds_of_wide 3 Try.f3 rfl rfl rfl rfl rfl rfl rfl ⟨rfl, rfl, rfl, rfl, rfl⟩ rfl rfl rfl rfl rfl (by kernel_rfl) Try.func3 (by kernel_rfl)
    (of_decide_eq_true (by kernel_rfl)) (by unfold Func.isWrapper; first | (rw [if_pos (by decide +kernel)]; kernel_rfl) | (rw [if_neg (by decide +kernel)]; exact ⟨rfl, rfl⟩))
    (fun os started H enc _ => lifted os started H enc)
theorem proved : Rows.FragSplitsSaid := over
#print axioms proved
end Go.Proofs.Ytngaolagifgfjaa.fragSplits
