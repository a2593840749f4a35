/-
  LeaseEncodes: any message is its bytes, or refused; and these are read as it, for every message. Conditions: none but those of the form itself.
-/
import Derived.Test.YtdpmjghdmpaehaaLsI
import Derived.Test.YtdpmjghdmpaehaaArg
import Derived.Test.YtdpmjghdmpaehaaSiz
import Derived.Test.YtdpmjghdmpaehaaRows
import Derived.WalkKit
import Derived.ProofKit
import Derived.OpenShut
import Derived.ShutString
import Derived.ChangeOld
import Derived.Below
namespace Go.Proofs.Ytdpmjghdmpaehaa.leaseEncodes
open Go.ChangeShapes Go.WideShapes Go.ChangeAt Go.RowKit
open Go.ChangeMaps (open_string shut_string)
set_option linter.unusedVariables false
theorem own : ownKnob Try.prog.godebug = none := by kernel_rfl
theorem laidOut : laidOutB Try.prog = true := by kernel_rfl
set_option maxRecDepth 100000 in
theorem lifted (os : Os) (started : os.Started) (H : Type) (enc : TypeId × Value → H) :
    ReturnsInHanded {} Try.checked os 3 .any (Rows.leaseEncodesSpec.pre6 enc Try.prog Try.f3 Rows.leaseEncodesRow.domain false) (Rows.leaseEncodesSpec.post enc Try.prog Try.f3 false true false false) := by
  refine returnsInHanded_of_change_sized (C := Try.checked) own started (by kernel_rfl) Try.func3
    (ChangeSpec.witness6 (enc := enc) (C := Try.checked) false ⟨#[], #[.agg #[.int .i64 0, .int .u32 0, .int .u32 0, .int .u8 0, .int .u8 0, .int .u8 0, .int .u8 0, .int .u8 0, .int .u8 0, .int .i64 0, .int .u32 0, .int .u32 0, .int .i64 0, .int .u32 0, .int .u32 0, .int .u32 0]], []⟩ 8 (by kernel_rfl) (by kernel_rfl) (by kernel_rfl) (by kernel_rfl)) ?_
  intro W base args ds gs before hval0 hW hcnd hsz _
  have hval : ∀ (j : Nat) t v, Try.f3.params[j]? = some t → args[j]? = some v → Value.okWide Try.prog W .any base t v := hval0
  have hW' := hW
  obtain ⟨p, q, hA0, hV, rfl, hfz, hnd⟩ := hW
  have hA : DataW.TrodAll enc Try.prog W 0 (fun _ => true) true Try.f3.params.toList args.toList ds p := hA0
  rw [Try.params3] at hA hval
  obtain ⟨v0, vs0, d0, ds0, p0, q0, hargs, rfl, rfl, h0, r0⟩ := trodAll_cons hA
  obtain ⟨rfl, rfl, rfl⟩ := trodAll_nil r0
  obtain rfl : args = #[v0] := by cases args; simp_all
  obtain ⟨rfl, rfl⟩ := trodVars_none hV
  have k0 := h0
  have lt0 : ∀ x ∈ p0, x.block < W.heap.size := by obtain ⟨m, hm⟩ := k0; exact DataW.trod_lt m _ _ _ hm
  obtain ⟨⟨l0⟩, rfl, _⟩ := okWide_struct Try.underlying27 (hval 0 27 v0 rfl rfl)
  have g0 := arg_kinds hsz (j := 0) rfl rfl 8 (show kindsOf Try.prog 8 27 = some [.int .i64, .int .u32, .int .u32, .int .u8, .int .u8, .int .u8, .int .u8, .int .u8, .int .u8, .int .i64, .int .u32, .int .u32, .int .i64, .int .u32, .int .u32, .int .u32] from by kernel_rfl) k0
  have gg0_0 : CK.all W _ l0 := g0
  clear g0
  obtain ⟨u0_0, l0_0, rfl, h0_0, gg0_1⟩ := CK.all_cons gg0_0
  clear gg0_0
  obtain ⟨a0_0, rfl, w0_0⟩ := CK.int_of h0_0
  obtain ⟨u0_1, l0_1, rfl, h0_1, gg0_2⟩ := CK.all_cons gg0_1
  clear gg0_1
  obtain ⟨a0_1, rfl, w0_1⟩ := CK.int_of h0_1
  obtain ⟨u0_2, l0_2, rfl, h0_2, gg0_3⟩ := CK.all_cons gg0_2
  clear gg0_2
  obtain ⟨a0_2, rfl, w0_2⟩ := CK.int_of h0_2
  obtain ⟨u0_3, l0_3, rfl, h0_3, gg0_4⟩ := CK.all_cons gg0_3
  clear gg0_3
  obtain ⟨a0_3, rfl, w0_3⟩ := CK.int_of h0_3
  obtain ⟨u0_4, l0_4, rfl, h0_4, gg0_5⟩ := CK.all_cons gg0_4
  clear gg0_4
  obtain ⟨a0_4, rfl, w0_4⟩ := CK.int_of h0_4
  obtain ⟨u0_5, l0_5, rfl, h0_5, gg0_6⟩ := CK.all_cons gg0_5
  clear gg0_5
  obtain ⟨a0_5, rfl, w0_5⟩ := CK.int_of h0_5
  obtain ⟨u0_6, l0_6, rfl, h0_6, gg0_7⟩ := CK.all_cons gg0_6
  clear gg0_6
  obtain ⟨a0_6, rfl, w0_6⟩ := CK.int_of h0_6
  obtain ⟨u0_7, l0_7, rfl, h0_7, gg0_8⟩ := CK.all_cons gg0_7
  clear gg0_7
  obtain ⟨a0_7, rfl, w0_7⟩ := CK.int_of h0_7
  obtain ⟨u0_8, l0_8, rfl, h0_8, gg0_9⟩ := CK.all_cons gg0_8
  clear gg0_8
  obtain ⟨a0_8, rfl, w0_8⟩ := CK.int_of h0_8
  obtain ⟨u0_9, l0_9, rfl, h0_9, gg0_10⟩ := CK.all_cons gg0_9
  clear gg0_9
  obtain ⟨a0_9, rfl, w0_9⟩ := CK.int_of h0_9
  obtain ⟨u0_10, l0_10, rfl, h0_10, gg0_11⟩ := CK.all_cons gg0_10
  clear gg0_10
  obtain ⟨a0_10, rfl, w0_10⟩ := CK.int_of h0_10
  obtain ⟨u0_11, l0_11, rfl, h0_11, gg0_12⟩ := CK.all_cons gg0_11
  clear gg0_11
  obtain ⟨a0_11, rfl, w0_11⟩ := CK.int_of h0_11
  obtain ⟨u0_12, l0_12, rfl, h0_12, gg0_13⟩ := CK.all_cons gg0_12
  clear gg0_12
  obtain ⟨a0_12, rfl, w0_12⟩ := CK.int_of h0_12
  obtain ⟨u0_13, l0_13, rfl, h0_13, gg0_14⟩ := CK.all_cons gg0_13
  clear gg0_13
  obtain ⟨a0_13, rfl, w0_13⟩ := CK.int_of h0_13
  obtain ⟨u0_14, l0_14, rfl, h0_14, gg0_15⟩ := CK.all_cons gg0_14
  clear gg0_14
  obtain ⟨a0_14, rfl, w0_14⟩ := CK.int_of h0_14
  obtain ⟨u0_15, l0_15, rfl, h0_15, gg0_16⟩ := CK.all_cons gg0_15
  clear gg0_15
  obtain ⟨a0_15, rfl, w0_15⟩ := CK.int_of h0_15
  obtain rfl := CK.all_nil gg0_16
  clear hA0 hval0
  refine Calls.mono (ls.encodesW _ a0_0 a0_1 a0_2 a0_3 a0_4 a0_5 a0_6 a0_7 a0_8 a0_9 a0_10 a0_11 a0_12 a0_13 a0_14 a0_15 w0_1 w0_2 w0_3 w0_4 w0_5 w0_6 w0_7 w0_8 w0_10 w0_11 w0_13 w0_14 w0_15) ?_
  rintro e W' ⟨he, bel0⟩
  have bel : Below W.heap.size W W' := bel0.below_nil
  subst he
  exact ⟨_, rfl, _, _, _, [], _, [], hW', trodAll_mk1 (shut_bool Try.underlying4 _), (trodAll_cons_mk (Below.trod laidOut (by kernel_rfl) (of_decide_eq_true (by kernel_rfl)) k0 bel lt0) trodAll_mk0), rfl, bel.frame _, fun h => by cases h⟩
theorem over : Rows.leaseEncodesRow.holds Try.pinned (OpenSpec.ofChange Rows.leaseEncodesSpec) :=
  OpenClaim.holds_of_wide 3 Try.f3 rfl rfl rfl rfl rfl rfl rfl ⟨rfl, rfl, rfl, rfl, rfl⟩ rfl rfl rfl rfl rfl (by kernel_rfl) Try.func3 (by kernel_rfl)
    (of_decide_eq_true (by kernel_rfl)) (by unfold Func.isWrapper; first | (rw [if_pos (by decide +kernel)]; kernel_rfl) | (rw [if_neg (by decide +kernel)]; exact ⟨rfl, rfl⟩))
    (fun os started H enc _ => lifted os started H enc)
theorem proved : Rows.LeaseEncodesSaid := over
#print axioms proved
end Go.Proofs.Ytdpmjghdmpaehaa.leaseEncodes
