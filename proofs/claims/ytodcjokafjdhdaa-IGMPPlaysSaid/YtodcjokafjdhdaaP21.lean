/-
  IGMPPlays: of every script each answer, and the groups. Conditions: none.
-/
import Derived.Test.YtodcjokafjdhdaaIgQ
import Derived.Test.YtodcjokafjdhdaaArg
import Derived.Test.YtodcjokafjdhdaaOplIg
import Derived.Test.YtodcjokafjdhdaaSiz
import Derived.Test.YtodcjokafjdhdaaRows
import Derived.WalkKit
import Derived.ProofKit
import Derived.OpenShut
import Derived.ShutString
import Derived.ChangeOld
import Derived.Below
namespace Go.Proofs.Ytodcjokafjdhdaa.iGMPPlays
open Go.ChangeShapes Go.WideShapes Go.ChangeAt Go.RowKit
open Go.ChangeMaps (open_string shut_string)
set_option linter.unusedVariables false
theorem own : ownKnob Try.prog.godebug = none := by kernel_rfl
theorem laidOut : laidOutB Try.prog = true := by kernel_rfl
set_option maxRecDepth 100000 in
theorem lifted (os : Os) (started : os.Started) (H : Type) (enc : TypeId × Value → H) :
    ReturnsInHanded {} Try.checked os 5 .any (Rows.iGMPPlaysSpec.pre6 enc Try.prog Try.f5 Rows.iGMPPlaysRow.domain false) (Rows.iGMPPlaysSpec.post enc Try.prog Try.f5 false true false false) := by
  refine returnsInHanded_of_change_sized (C := Try.checked) own started (by kernel_rfl) Try.func5
    (ChangeSpec.witness6 (enc := enc) (C := Try.checked) false ⟨#[], #[.slice none 0 0], []⟩ 8 (by kernel_rfl) (by kernel_rfl) (by kernel_rfl) (by kernel_rfl)) ?_
  intro W base args ds gs before hval0 hW hcnd hsz _
  have hval : ∀ (j : Nat) t v, Try.f5.params[j]? = some t → args[j]? = some v → Value.okWide Try.prog W .any base t v := hval0
  have hW' := hW
  obtain ⟨p, q, hA0, hV, rfl, hfz, hnd⟩ := hW
  have hA : DataW.TrodAll enc Try.prog W 0 (fun _ => true) true Try.f5.params.toList args.toList ds p := hA0
  rw [Try.params5] at hA hval
  obtain ⟨v0, vs0, d0, ds0, p0, q0, hargs, rfl, rfl, h0, r0⟩ := trodAll_cons hA
  obtain ⟨rfl, rfl, rfl⟩ := trodAll_nil r0
  obtain rfl : args = #[v0] := by cases args; simp_all
  obtain ⟨rfl, rfl⟩ := trodVars_none hV
  obtain ⟨a0, len0, cap0, rfl⟩ := okWide_slice Try.underlying42 (hval 0 42 v0 rfl rfl)
  have k0 := h0
  have lt0 : ∀ x ∈ p0, x.block < W.heap.size := by obtain ⟨m, hm⟩ := k0; exact DataW.trod_lt m _ _ _ hm
  have g0 := arg_kinds hsz (j := 0) rfl rfl 8 (show kindsOf Try.prog 8 42 = some [.slice [.int .i64, .int .u32, .int .i64, .int .i64, .int .u32, .int .i64, .int .i64] (Try.prog.bytesOf 52)] from by kernel_rfl) k0
  have s0 := CK.all_one g0
  have szz0 := len_reach Try.underlying42 k0 (fun el sp hd => sized_slice hsz (j := 0) rfl (by rw [hd]; rfl) Try.underlying42)
  have sz0 : len0 * Try.prog.bytesOf 52 ≤ 140737488351232 := szz0
  clear hA0 hval0
  obtain ⟨V0, V1, V2, V3, V4, V5, V6, hS, _, _⟩ := OplIg_of (rfl : 1 = 1) s0
  refine Calls.mono (igm.plays W a0 len0 cap0 V0 V1 V2 V3 V4 V5 V6 hS) ?_
  rintro e W' ⟨he, bel0⟩
  have bel : Below W.heap.size W W' := bel0.below_nil
  subst he
  exact ⟨_, rfl, _, _, _, [], _, [], hW', trodAll_mk1 (shut_bool Try.underlying4 _), (trodAll_cons_mk (Below.trod laidOut (by kernel_rfl) (of_decide_eq_true (by kernel_rfl)) k0 bel lt0) trodAll_mk0), rfl, bel.frame _, fun h => by cases h⟩
theorem over : Rows.iGMPPlaysRow.holds Try.pinned (OpenSpec.ofChange Rows.iGMPPlaysSpec) :=
  OpenClaim.holds_of_wide 5 Try.f5 rfl rfl rfl rfl rfl rfl rfl ⟨rfl, rfl, rfl, rfl, rfl⟩ rfl rfl rfl rfl rfl (by kernel_rfl) Try.func5 (by kernel_rfl)
    (of_decide_eq_true (by kernel_rfl)) (by unfold Func.isWrapper; first | (rw [if_pos (by decide +kernel)]; kernel_rfl) | (rw [if_neg (by decide +kernel)]; exact ⟨rfl, rfl⟩))
    (fun os started H enc _ => lifted os started H enc)
theorem proved : Rows.IGMPPlaysSaid := over
#print axioms proved
end Go.Proofs.Ytodcjokafjdhdaa.iGMPPlays
