/-
  NameBack: for every message that Encode writes, and whatever bytes stand behind it, Decode reads the message again; what Encode refuses has no bytes; and known() holds. No conditions but those of the statement's reading.
-/
import Derived.Test.YtfoecnlbiaiibaaNamBg
import Derived.Test.YtfoecnlbiaiibaaArg
import Derived.Test.YtfoecnlbiaiibaaOplM
import Derived.Test.YtfoecnlbiaiibaaSiz
import Derived.Test.YtfoecnlbiaiibaaRows
import Derived.WalkKit
import Derived.ProofKit
import Derived.OpenShut
import Derived.ShutString
import Derived.ChangeOld
import Derived.Below
namespace Go.Proofs.Ytfoecnlbiaiibaa.nameBack
open Go.ChangeShapes Go.WideShapes Go.ChangeAt Go.RowKit
open Go.ChangeMaps (open_string shut_string)
set_option linter.unusedVariables false
theorem own : ownKnob Try.prog.godebug = none := by kernel_rfl
theorem laidOut : laidOutB Try.prog = true := by kernel_rfl
set_option maxRecDepth 100000 in
theorem lifted (os : Os) (started : os.Started) (H : Type) (enc : TypeId × Value → H) :
    ReturnsInHanded {} Try.checked os 6 .any (Rows.nameBackSpec.pre6 enc Try.prog Try.f6 Rows.nameBackRow.domain false) (Rows.nameBackSpec.post enc Try.prog Try.f6 false true false false) := by
  refine returnsInHanded_of_change_sized (C := Try.checked) own started (by kernel_rfl) Try.func6
    (ChangeSpec.witness6 (enc := enc) (C := Try.checked) false ⟨#[], #[.agg #[.int .i64 0, .int .i64 0, .slice none 0 0, .slice none 0 0], .slice none 0 0], []⟩ 8 (by kernel_rfl) (by kernel_rfl) (by kernel_rfl) (by kernel_rfl)) ?_
  intro W base args ds gs before hval0 hW hcnd hsz _
  have hval : ∀ (j : Nat) t v, Try.f6.params[j]? = some t → args[j]? = some v → Value.okWide Try.prog W .any base t v := hval0
  have hW' := hW
  obtain ⟨p, q, hA0, hV, rfl, hfz, hnd⟩ := hW
  have hA : DataW.TrodAll enc Try.prog W 0 (fun _ => true) true Try.f6.params.toList args.toList ds p := hA0
  rw [Try.params6] at hA hval
  obtain ⟨v0, vs0, d0, ds0, p0, q0, hargs, rfl, rfl, h0, r0⟩ := trodAll_cons hA
  obtain ⟨v1, vs1, d1, ds1, p1, q1, rfl, rfl, rfl, h1, r1⟩ := trodAll_cons r0
  obtain ⟨rfl, rfl, rfl⟩ := trodAll_nil r1
  obtain rfl : args = #[v0, v1] := by cases args; simp_all
  obtain ⟨rfl, rfl⟩ := trodVars_none hV
  have k0 := h0
  have lt0 : ∀ x ∈ p0, x.block < W.heap.size := by obtain ⟨m, hm⟩ := k0; exact DataW.trod_lt m _ _ _ hm
  obtain ⟨⟨l0⟩, rfl, _⟩ := okWide_struct Try.underlying39 (hval 0 39 v0 rfl rfl)
  have g0 := arg_kinds hsz (j := 0) rfl rfl 8 (show kindsOf Try.prog 8 39 = some [.int .i64, .int .i64, .slice [.str, .int .i64, .int .i64, .int .i64, .slice [.int .u8] (Try.prog.bytesOf 5)] (Try.prog.bytesOf 46), .slice [.str, .int .i64, .int .i64, .int .i64, .slice [.int .u8] (Try.prog.bytesOf 5)] (Try.prog.bytesOf 46)] from by kernel_rfl) k0
  have gg0_0 : CK.all W _ l0 := g0
  clear g0
  obtain ⟨u0_0, l0_0, rfl, h0_0, gg0_1⟩ := CK.all_cons gg0_0
  clear gg0_0
  obtain ⟨a0_0, rfl, w0_0⟩ := CK.int_of h0_0
  obtain ⟨u0_1, l0_1, rfl, h0_1, gg0_2⟩ := CK.all_cons gg0_1
  clear gg0_1
  obtain ⟨a0_1, rfl, w0_1⟩ := CK.int_of h0_1
  obtain ⟨u0_2, l0_2, rfl, h0_2, gg0_3⟩ := CK.all_cons gg0_2
  clear gg0_2
  obtain ⟨a0_2, len0_2, cap0_2, rfl⟩ := CK.slice_of h0_2
  obtain ⟨u0_3, l0_3, rfl, h0_3, gg0_4⟩ := CK.all_cons gg0_3
  clear gg0_3
  obtain ⟨a0_3, len0_3, cap0_3, rfl⟩ := CK.slice_of h0_3
  obtain rfl := CK.all_nil gg0_4
  obtain ⟨a1, len1, cap1, rfl⟩ := okWide_slice Try.underlying22 (hval 1 22 v1 rfl rfl)
  have k1 := h1
  have lt1 : ∀ x ∈ p1, x.block < W.heap.size := by obtain ⟨m, hm⟩ := k1; exact DataW.trod_lt m _ _ _ hm
  obtain ⟨z1, w1⟩ : ∃ zs, IsRow .u8 W a1 len1 cap1 zs := by
    obtain ⟨fuel, hf⟩ := h1
    rcases open_ints Try.underlying22 Try.underlying5 (by kernel_rfl) hf with ⟨hcs, _⟩ | ⟨x, l, c, zs, hcs, _, hl, hm, hz, _, hcell, hwz⟩
    · simp [Value.cells] at hcs
      obtain ⟨rfl, rfl, rfl⟩ := hcs
      exact ⟨[], .inl ⟨rfl, rfl, rfl, rfl⟩⟩
    · simp [Value.cells] at hcs
      obtain ⟨rfl, rfl, rfl⟩ := hcs
      exact ⟨zs, .inr ⟨_, rfl, hl, hm, by simpa using hz, hcell, hwz⟩⟩
  have szz1 := len_reach Try.underlying22 k1 (fun el sp hd => sized_slice hsz (j := 1) rfl (by rw [hd]; rfl) Try.underlying22)
  have sz1 : len1 * Try.prog.bytesOf 5 ≤ 140737488351232 := szz1
  clear hA0 hval0
  refine Calls.mono (nam.back1 _ a0_0 a0_1 a0_2 len0_2 cap0_2 a0_3 len0_3 cap0_3 (nam.MR_of (by kernel_rfl) (of_decide_eq_true (by kernel_rfl)) h0_2) (nam.MR_of (by kernel_rfl) (of_decide_eq_true (by kernel_rfl)) h0_3) a1 len1 cap1 _ (Rd.of_row w1) w1.none_cap) ?_
  rintro e W' ⟨he, bel0⟩
  have bel : Below W.heap.size W W' := bel0.below_nil
  subst he
  exact ⟨_, rfl, _, _, _, [], _, [], hW', trodAll_mk1 (shut_bool Try.underlying4 _), (trodAll_cons_mk (Below.trod laidOut (by kernel_rfl) (of_decide_eq_true (by kernel_rfl)) k0 bel lt0) (trodAll_cons_mk (Below.trod laidOut (by kernel_rfl) (of_decide_eq_true (by kernel_rfl)) k1 bel lt1) trodAll_mk0)), rfl, bel.frame _, fun h => by cases h⟩
theorem over : Rows.nameBackRow.holds Try.pinned (OpenSpec.ofChange Rows.nameBackSpec) :=
  OpenClaim.holds_of_wide 6 Try.f6 rfl rfl rfl rfl rfl rfl rfl ⟨rfl, rfl, rfl, rfl, rfl⟩ rfl rfl rfl rfl rfl (by kernel_rfl) Try.func6 (by kernel_rfl)
    (of_decide_eq_true (by kernel_rfl)) (by unfold Func.isWrapper; first | (rw [if_pos (by decide +kernel)]; kernel_rfl) | (rw [if_neg (by decide +kernel)]; exact ⟨rfl, rfl⟩))
    (fun os started H enc _ => lifted os started H enc)
theorem proved : Rows.NameBackSaid := over
#print axioms proved
end Go.Proofs.Ytfoecnlbiaiibaa.nameBack
