/-
  HostOfNothing: a nil Host does nothing; it says true for every row of bytes, every datagram and every number. Conditions: none.
-/
import Derived.Test.YtjehddcgbgfhdaaGreatEvS19na
import Derived.Test.YtjehddcgbgfhdaaGreatArg
import Derived.Test.YtjehddcgbgfhdaaGreatJoi
import Derived.Test.YtjehddcgbgfhdaaGreatSiz
import Derived.Test.YtjehddcgbgfhdaaGreatRows
import Derived.WalkKit
import Derived.ProofKit
import Derived.OpenShut
import Derived.ShutString
import Derived.ChangeOld
import Derived.Below
namespace Go.Proofs.YtjehddcgbgfhdaaGreat.hostOfNothing
open Go.ChangeShapes Go.WideShapes Go.ChangeAt Go.RowKit
open Go.ChangeMaps (open_string shut_string)
set_option linter.unusedVariables false
theorem own : ownKnob Tryz.prog.godebug = none := by kernel_rfl
theorem laidOut : laidOutB Tryz.prog = true := by kernel_rfl
set_option maxRecDepth 100000 in
theorem lifted (os : Os) (started : os.Started) (H : Type) (enc : TypeId × Value → H) :
    ReturnsInHanded {} Tryz.checked os 3 .any (Rows.hostOfNothingSpec.pre6 enc Tryz.prog Tryz.f3 Rows.hostOfNothingRow.domain false) (Rows.hostOfNothingSpec.post enc Tryz.prog Tryz.f3 false true false false) := by
  refine returnsInHanded_of_change_sized (C := Tryz.checked) own started (by kernel_rfl) Tryz.func3
    (ChangeSpec.witness6 (enc := enc) (C := Tryz.checked) false ⟨#[], #[.slice none 0 0, .agg #[.int .u32 0, .int .i64 0, .int .u32 0, .int .i64 0, .slice none 0 0], .int .i64 0], []⟩ 8 (by kernel_rfl) (by kernel_rfl) (by kernel_rfl) (by kernel_rfl)) ?_
  intro W base args ds gs before hval0 hW hcnd hsz _
  have hval : ∀ (j : Nat) t v, Tryz.f3.params[j]? = some t → args[j]? = some v → Value.okWide Tryz.prog W .any base t v := hval0
  have hW' := hW
  obtain ⟨p, q, hA0, hV, rfl, hfz, hnd⟩ := hW
  have hA : DataW.TrodAll enc Tryz.prog W 0 (fun _ => true) true Tryz.f3.params.toList args.toList ds p := hA0
  rw [Tryz.params3] at hA hval
  obtain ⟨v0, vs0, d0, ds0, p0, q0, hargs, rfl, rfl, h0, r0⟩ := trodAll_cons hA
  obtain ⟨v1, vs1, d1, ds1, p1, q1, rfl, rfl, rfl, h1, r1⟩ := trodAll_cons r0
  obtain ⟨v2, vs2, d2, ds2, p2, q2, rfl, rfl, rfl, h2, r2⟩ := trodAll_cons r1
  obtain ⟨rfl, rfl, rfl⟩ := trodAll_nil r2
  obtain rfl : args = #[v0, v1, v2] := by cases args; simp_all
  obtain ⟨rfl, rfl⟩ := trodVars_none hV
  obtain ⟨a0, len0, cap0, rfl⟩ := okWide_slice Tryz.underlying22 (hval 0 22 v0 rfl rfl)
  have k0 := h0
  have lt0 : ∀ x ∈ p0, x.block < W.heap.size := by obtain ⟨m, hm⟩ := k0; exact DataW.trod_lt m _ _ _ hm
  obtain ⟨z0, w0⟩ : ∃ zs, IsRow .u8 W a0 len0 cap0 zs := by
    obtain ⟨fuel, hf⟩ := h0
    rcases open_ints Tryz.underlying22 Tryz.underlying5 (by kernel_rfl) hf with ⟨hcs, _⟩ | ⟨x, l, c, zs, hcs, _, hl, hm, hz, _, hcell, hwz⟩
    · simp [Value.cells] at hcs
      obtain ⟨rfl, rfl, rfl⟩ := hcs
      exact ⟨[], .inl ⟨rfl, rfl, rfl, rfl⟩⟩
    · simp [Value.cells] at hcs
      obtain ⟨rfl, rfl, rfl⟩ := hcs
      exact ⟨zs, .inr ⟨_, rfl, hl, hm, by simpa using hz, hcell, hwz⟩⟩
  have k1 := h1
  have lt1 : ∀ x ∈ p1, x.block < W.heap.size := by obtain ⟨m, hm⟩ := k1; exact DataW.trod_lt m _ _ _ hm
  obtain ⟨⟨l1⟩, rfl, _⟩ := okWide_struct Tryz.underlying26 (hval 1 26 v1 rfl rfl)
  have g1 := arg_kinds hsz (j := 1) rfl rfl 8 (show kindsOf Tryz.prog 8 26 = some [.int .u32, .int .i64, .int .u32, .int .i64, .slice [.int .u8] (Tryz.prog.bytesOf 5)] from by kernel_rfl) k1
  have gg1_0 : CK.all W _ l1 := g1
  clear g1
  obtain ⟨u1_0, l1_0, rfl, h1_0, gg1_1⟩ := CK.all_cons gg1_0
  clear gg1_0
  obtain ⟨a1_0, rfl, w1_0⟩ := CK.int_of h1_0
  obtain ⟨u1_1, l1_1, rfl, h1_1, gg1_2⟩ := CK.all_cons gg1_1
  clear gg1_1
  obtain ⟨a1_1, rfl, w1_1⟩ := CK.int_of h1_1
  obtain ⟨u1_2, l1_2, rfl, h1_2, gg1_3⟩ := CK.all_cons gg1_2
  clear gg1_2
  obtain ⟨a1_2, rfl, w1_2⟩ := CK.int_of h1_2
  obtain ⟨u1_3, l1_3, rfl, h1_3, gg1_4⟩ := CK.all_cons gg1_3
  clear gg1_3
  obtain ⟨a1_3, rfl, w1_3⟩ := CK.int_of h1_3
  obtain ⟨u1_4, l1_4, rfl, h1_4, gg1_5⟩ := CK.all_cons gg1_4
  clear gg1_4
  obtain ⟨a1_4, len1_4, cap1_4, z1_4, rfl, w1_4, b1_4⟩ := CK.ints h1_4
  obtain rfl := CK.all_nil gg1_5
  obtain ⟨a2, rfl, rfl, rfl, w2⟩ := open_int Tryz.underlying3 (hval 2 3 v2 rfl rfl) h2
  have szz0 := len_reach Tryz.underlying22 k0 (fun el sp hd => sized_slice hsz (j := 0) rfl (by rw [hd]; rfl) Tryz.underlying22)
  have sz0 : len0 * Tryz.prog.bytesOf 5 ≤ 140737488351232 := szz0
  clear hA0 hval0
  have hbo : Tryz.prog.bytesOf 5 = 1 := by kernel_rfl
  have hd : len1_4 ≤ 140737488355328 := by
    have h1 := w1_4.len_le
    have h2 := b1_4
    rw [hbo] at h2
    omega
  have hb : len0 ≤ 140737488355328 := by
    have h2 := sz0
    rw [hbo] at h2
    omega
  refine Calls.mono (ev.HostOfNothingOne _ (fun _ => 0) (fun _ => ⟨by decide, by decide⟩) a1_4 a0 len1_4 cap1_4 len0 cap0 hd hb a1_0 a1_1 a1_2 a1_3 a2 (ev.bd_u32 w1_0) (ev.bd_i64 w1_1) (ev.bd_u32 w1_2) (ev.bd_i64 w1_3) (ev.bd_i64 w2)) ?_
  rintro e W' ⟨he, bel0⟩
  have bel : Below W.heap.size W W' := bel0.below_nil
  subst he
  exact ⟨_, rfl, _, _, _, [], _, [], hW', trodAll_mk1 (shut_bool Tryz.underlying4 _), (trodAll_cons_mk (Below.trod laidOut (by kernel_rfl) (of_decide_eq_true (by kernel_rfl)) k0 bel lt0) (trodAll_cons_mk (Below.trod laidOut (by kernel_rfl) (of_decide_eq_true (by kernel_rfl)) k1 bel lt1) (trodAll_cons_mk (shut_int Tryz.underlying3 w2) trodAll_mk0))), rfl, bel.frame _, fun h => by cases h⟩
set_option maxHeartbeats 4000000 in
theorem over : Rows.hostOfNothingRow.holds Tryz.pinned (OpenSpec.ofChange Rows.hostOfNothingSpec) :=
  OpenClaim.holds_of_wide 3 Tryz.f3 rfl rfl rfl rfl rfl rfl rfl ⟨rfl, rfl, rfl, rfl, rfl⟩ rfl rfl rfl rfl rfl (by as_aux_lemma => kernel_rfl) Tryz.func3 (joined_of (by as_aux_lemma => kernel_rfl) (by as_aux_lemma => kernel_rfl) (by as_aux_lemma => kernel_rfl) (by as_aux_lemma => kernel_rfl) (by as_aux_lemma => kernel_rfl) (by as_aux_lemma => kernel_rfl) (by as_aux_lemma => kernel_rfl) (by as_aux_lemma => kernel_rfl) (by as_aux_lemma => kernel_rfl) (by as_aux_lemma => kernel_rfl) (by as_aux_lemma => kernel_rfl) (by as_aux_lemma => kernel_rfl) (by as_aux_lemma => kernel_rfl) (by as_aux_lemma => kernel_rfl) (by as_aux_lemma => kernel_rfl) (by as_aux_lemma => kernel_rfl) (by as_aux_lemma => kernel_rfl) (by as_aux_lemma => kernel_rfl) (by as_aux_lemma => kernel_rfl) (by as_aux_lemma => kernel_rfl) (by as_aux_lemma => kernel_rfl) (by as_aux_lemma => kernel_rfl) (by as_aux_lemma => kernel_rfl) (by as_aux_lemma => kernel_rfl) (by as_aux_lemma => kernel_rfl) (by as_aux_lemma => kernel_rfl) (by as_aux_lemma => kernel_rfl) (by as_aux_lemma => kernel_rfl) (by as_aux_lemma => kernel_rfl) (by as_aux_lemma => kernel_rfl) (by as_aux_lemma => kernel_rfl) (by as_aux_lemma => kernel_rfl))
    (of_decide_eq_true (by as_aux_lemma => kernel_rfl)) (by unfold Func.isWrapper; first | (rw [if_pos (by decide +kernel)]; kernel_rfl) | (rw [if_neg (by decide +kernel)]; exact ⟨rfl, rfl⟩))
    (fun os started H enc _ => lifted os started H enc)
theorem proved : Rows.HostOfNothingSaid := over
#print axioms proved
end Go.Proofs.YtjehddcgbgfhdaaGreat.hostOfNothing
