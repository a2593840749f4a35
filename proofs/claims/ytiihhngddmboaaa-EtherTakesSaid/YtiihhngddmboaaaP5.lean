/-
  A law of chapter 4 (ether): a frame is ours, if it goes to us, to all, or to one of our groups. Conditions: none of ours.
-/
import Derived.Test.YtiihhngddmboaaaEthU
import Derived.Test.YtiihhngddmboaaaArg
import Derived.Test.YtiihhngddmboaaaSiz
import Derived.Test.YtiihhngddmboaaaRows
import Derived.WalkKit
import Derived.ProofKit
import Derived.OpenShut
import Derived.ShutString
import Derived.ChangeOld
import Derived.Below
namespace Go.Proofs.Ytiihhngddmboaaa.etherTakes
open Go.ChangeShapes Go.WideShapes Go.ChangeAt Go.RowKit
open Go.ChangeMaps (open_string shut_string)
set_option linter.unusedVariables false
theorem own : ownKnob Try.prog.godebug = none := by kernel_rfl
theorem laidOut : laidOutB Try.prog = true := by kernel_rfl
set_option maxRecDepth 100000 in
theorem lifted (os : Os) (started : os.Started) (H : Type) (enc : TypeId × Value → H) :
    ReturnsInHanded {} Try.checked os 8 .any (Rows.etherTakesSpec.pre6 enc Try.prog Try.f8 Rows.etherTakesRow.domain false) (Rows.etherTakesSpec.post enc Try.prog Try.f8 false true false false) := by
  refine returnsInHanded_of_change_sized (C := Try.checked) own started (by kernel_rfl) Try.func8
    (ChangeSpec.witness6 (enc := enc) (C := Try.checked) false ⟨#[], #[.agg #[.int .u8 0, .int .u8 0, .int .u8 0, .int .u8 0, .int .u8 0, .int .u8 0], .slice none 0 0, .agg #[.int .u8 0, .int .u8 0, .int .u8 0, .int .u8 0, .int .u8 0, .int .u8 0], .int .u32 0], []⟩ 8 (by kernel_rfl) (by kernel_rfl) (by kernel_rfl) (by kernel_rfl)) ?_
  intro W base args ds gs before hval0 hW hcnd hsz _
  have hval : ∀ (j : Nat) t v, Try.f8.params[j]? = some t → args[j]? = some v → Value.okWide Try.prog W .any base t v := hval0
  have hW' := hW
  obtain ⟨p, q, hA0, hV, rfl, hfz, hnd⟩ := hW
  have hA : DataW.TrodAll enc Try.prog W 0 (fun _ => true) true Try.f8.params.toList args.toList ds p := hA0
  rw [Try.params8] at hA hval
  obtain ⟨v0, vs0, d0, ds0, p0, q0, hargs, rfl, rfl, h0, r0⟩ := trodAll_cons hA
  obtain ⟨v1, vs1, d1, ds1, p1, q1, rfl, rfl, rfl, h1, r1⟩ := trodAll_cons r0
  obtain ⟨v2, vs2, d2, ds2, p2, q2, rfl, rfl, rfl, h2, r2⟩ := trodAll_cons r1
  obtain ⟨v3, vs3, d3, ds3, p3, q3, rfl, rfl, rfl, h3, r3⟩ := trodAll_cons r2
  obtain ⟨rfl, rfl, rfl⟩ := trodAll_nil r3
  obtain rfl : args = #[v0, v1, v2, v3] := by cases args; simp_all
  obtain ⟨rfl, rfl⟩ := trodVars_none hV
  have k0 := h0
  have lt0 : ∀ x ∈ p0, x.block < W.heap.size := by obtain ⟨m, hm⟩ := k0; exact DataW.trod_lt m _ _ _ hm
  obtain ⟨⟨l0⟩, rfl, _⟩ := okWide_array Try.underlying23 (hval 0 23 v0 rfl rfl)
  have g0 := arg_kinds hsz (j := 0) rfl rfl 8 (show kindsOf Try.prog 8 23 = some [.int .u8, .int .u8, .int .u8, .int .u8, .int .u8, .int .u8] from by kernel_rfl) k0
  have gg0_0 : CK.all W _ l0 := g0
  clear g0
  obtain ⟨u0_0, l0_0, rfl, h0_0, gg0_1⟩ := CK.all_cons gg0_0
  clear gg0_0
  obtain ⟨a0_0, rfl, w0_0⟩ := CK.int_of h0_0
  obtain ⟨u0_1, l0_1, rfl, h0_1, gg0_2⟩ := CK.all_cons gg0_1
  clear gg0_1
  obtain ⟨a0_1, rfl, w0_1⟩ := CK.int_of h0_1
  obtain ⟨u0_2, l0_2, rfl, h0_2, gg0_3⟩ := CK.all_cons gg0_2
  clear gg0_2
  obtain ⟨a0_2, rfl, w0_2⟩ := CK.int_of h0_2
  obtain ⟨u0_3, l0_3, rfl, h0_3, gg0_4⟩ := CK.all_cons gg0_3
  clear gg0_3
  obtain ⟨a0_3, rfl, w0_3⟩ := CK.int_of h0_3
  obtain ⟨u0_4, l0_4, rfl, h0_4, gg0_5⟩ := CK.all_cons gg0_4
  clear gg0_4
  obtain ⟨a0_4, rfl, w0_4⟩ := CK.int_of h0_4
  obtain ⟨u0_5, l0_5, rfl, h0_5, gg0_6⟩ := CK.all_cons gg0_5
  clear gg0_5
  obtain ⟨a0_5, rfl, w0_5⟩ := CK.int_of h0_5
  obtain rfl := CK.all_nil gg0_6
  obtain ⟨a1, len1, cap1, rfl⟩ := okWide_slice Try.underlying50 (hval 1 50 v1 rfl rfl)
  have k1 := h1
  have lt1 : ∀ x ∈ p1, x.block < W.heap.size := by obtain ⟨m, hm⟩ := k1; exact DataW.trod_lt m _ _ _ hm
  obtain ⟨z1, w1⟩ : ∃ zs, IsRow .u32 W a1 len1 cap1 zs := by
    obtain ⟨fuel, hf⟩ := h1
    rcases open_ints Try.underlying50 Try.underlying52 (by kernel_rfl) hf with ⟨hcs, _⟩ | ⟨x, l, c, zs, hcs, _, hl, hm, hz, _, hcell, hwz⟩
    · simp [Value.cells] at hcs
      obtain ⟨rfl, rfl, rfl⟩ := hcs
      exact ⟨[], .inl ⟨rfl, rfl, rfl, rfl⟩⟩
    · simp [Value.cells] at hcs
      obtain ⟨rfl, rfl, rfl⟩ := hcs
      exact ⟨zs, .inr ⟨_, rfl, hl, hm, by simpa using hz, hcell, hwz⟩⟩
  have k2 := h2
  have lt2 : ∀ x ∈ p2, x.block < W.heap.size := by obtain ⟨m, hm⟩ := k2; exact DataW.trod_lt m _ _ _ hm
  obtain ⟨⟨l2⟩, rfl, _⟩ := okWide_array Try.underlying23 (hval 2 23 v2 rfl rfl)
  have g2 := arg_kinds hsz (j := 2) rfl rfl 8 (show kindsOf Try.prog 8 23 = some [.int .u8, .int .u8, .int .u8, .int .u8, .int .u8, .int .u8] from by kernel_rfl) k2
  have gg2_0 : CK.all W _ l2 := g2
  clear g2
  obtain ⟨u2_0, l2_0, rfl, h2_0, gg2_1⟩ := CK.all_cons gg2_0
  clear gg2_0
  obtain ⟨a2_0, rfl, w2_0⟩ := CK.int_of h2_0
  obtain ⟨u2_1, l2_1, rfl, h2_1, gg2_2⟩ := CK.all_cons gg2_1
  clear gg2_1
  obtain ⟨a2_1, rfl, w2_1⟩ := CK.int_of h2_1
  obtain ⟨u2_2, l2_2, rfl, h2_2, gg2_3⟩ := CK.all_cons gg2_2
  clear gg2_2
  obtain ⟨a2_2, rfl, w2_2⟩ := CK.int_of h2_2
  obtain ⟨u2_3, l2_3, rfl, h2_3, gg2_4⟩ := CK.all_cons gg2_3
  clear gg2_3
  obtain ⟨a2_3, rfl, w2_3⟩ := CK.int_of h2_3
  obtain ⟨u2_4, l2_4, rfl, h2_4, gg2_5⟩ := CK.all_cons gg2_4
  clear gg2_4
  obtain ⟨a2_4, rfl, w2_4⟩ := CK.int_of h2_4
  obtain ⟨u2_5, l2_5, rfl, h2_5, gg2_6⟩ := CK.all_cons gg2_5
  clear gg2_5
  obtain ⟨a2_5, rfl, w2_5⟩ := CK.int_of h2_5
  obtain rfl := CK.all_nil gg2_6
  obtain ⟨a3, rfl, rfl, rfl, w3⟩ := open_int Try.underlying52 (hval 3 52 v3 rfl rfl) h3
  have szz1 := len_reach Try.underlying50 k1 (fun el sp hd => sized_slice hsz (j := 1) rfl (by rw [hd]; rfl) Try.underlying50)
  have sz1 : len1 * Try.prog.bytesOf 52 ≤ 140737488351232 := szz1
  clear hA0 hval0
  refine Calls.mono (eth.takesLaw W _ _ _ _ _ _ _ _ _ _ _ _ _ _ _ _ _ (Rd.of_row w1) w1.none_cap w1.len_le.1 (u32Bd w3)) ?_
  rintro e W' ⟨he, bel0⟩
  have bel : Below W.heap.size W W' := bel0.below_nil
  subst he
  exact ⟨_, rfl, _, _, _, [], _, [], hW', trodAll_mk1 (shut_bool Try.underlying4 _), (trodAll_cons_mk (Below.trod laidOut (by kernel_rfl) (of_decide_eq_true (by kernel_rfl)) k0 bel lt0) (trodAll_cons_mk (Below.trod laidOut (by kernel_rfl) (of_decide_eq_true (by kernel_rfl)) k1 bel lt1) (trodAll_cons_mk (Below.trod laidOut (by kernel_rfl) (of_decide_eq_true (by kernel_rfl)) k2 bel lt2) (trodAll_cons_mk (shut_int Try.underlying52 w3) trodAll_mk0)))), rfl, bel.frame _, fun h => by cases h⟩
theorem over : Rows.etherTakesRow.holds Try.pinned (OpenSpec.ofChange Rows.etherTakesSpec) :=
  OpenClaim.holds_of_wide 8 Try.f8 rfl rfl rfl rfl rfl rfl rfl ⟨rfl, rfl, rfl, rfl, rfl⟩ rfl rfl rfl rfl rfl (by kernel_rfl) Try.func8 (by kernel_rfl)
    (of_decide_eq_true (by kernel_rfl)) (by unfold Func.isWrapper; first | (rw [if_pos (by decide +kernel)]; kernel_rfl) | (rw [if_neg (by decide +kernel)]; exact ⟨rfl, rfl⟩))
    (fun os started H enc _ => lifted os started H enc)
theorem proved : Rows.EtherTakesSaid := over
#print axioms proved
end Go.Proofs.Ytiihhngddmboaaa.etherTakes
