/-
  The document's sum of a datagram or a segment: what is summed ahead of it, and the sum, by a walk of each text. Conditions: none but those typed.
-/
import Derived.Test.YtnhakcgkhhficaaWrt
import Derived.Test.YtnhakcgkhhficaaRef11
import Derived.Test.YtnhakcgkhhficaaSum11
namespace Go.Proofs.Ytnhakcgkhhficaa.psd
set_option linter.unusedVariables false
set_option linter.unusedSimpArgs false
open Go.ChangeShapes Go.WideShapes Go.ChangeAt Go.RowKit Go.IntWalk Go.Lib
/-- What is summed ahead. -/
def psd (fr to pr nn : Int) : List Int :=
  [fr / 16777216 % 256, fr / 65536 % 256, fr / 256 % 256, fr % 256, to / 16777216 % 256, to / 65536 % 256, to / 256 % 256, to % 256, pr / 256 % 256, pr % 256, nn / 256 % 256, nn % 256]
set_option maxHeartbeats 4000000 in
theorem pseudo1 (w : World) (fr to pr nn : Int) (hp : 0 ≤ pr ∧ pr ≤ 255) :
    Calls Try.prog 64 #[.int .u32 fr, .int .u32 to, .int .i64 pr, .int .i64 nn] w fun x w' => ∃ v, x = .returned v ∧ Own .u8 5 w' w.heap.size v (psd fr to pr nn) ∧ Only [] w w' := by
  go_enter Try.func64, Try.ntmps64
  go_wp2_with fail
  refine (ref.four1 _ fr).mono ?_
  rintro x w1 ⟨g1, rfl, h1, o1⟩
  have V1 := hid h1; have Q1 := hid o1; clear h1 o1
  go_wp2_with fail
  refine (ref.four1 _ to).mono ?_
  rintro x w2 ⟨g2, rfl, h2, o2⟩
  have V1 := hid (V1.out.only_nil o2); have Q := hid (Q1.out.trans o2); have V2 := hid h2; clear h2 o2 Q1
  have B := hid (Q.out.below_nil)
  go_wp2_with (at_builtin; refine wpList_app _ rfl (.tmp 11) (.tmp 13) _ rfl wrt.elemB w.heap.size _ (ref.four fr) rfl ?c3a (some ⟨g2, 0, none⟩) 4 4 (ref.four to) rfl ?c3b ?c3c ?c3d ?c3e ?c3f ?_)
  case c3a => exact V1.out
  case c3b => exact V2.out.rd
  case c3c => simp
  case c3d => first | (simp [ref.four]; done) | (simp [ref.four]; omega) | omega
  case c3e => unfold maxLen; first | (simp [ref.four]; done) | (simp [ref.four]; omega) | omega
  case c3f => have := B.out.size; first | omega | (simp; omega) | (simp at this; simp; omega)
  intro v3 W3 hv hg hb
  have V3 := hid hv
  have B := hid (B.out.grown hg (by have := B.out.size; first | omega | (simp; omega) | (simp at this; simp; omega)) (fun k hk => ((V1.out).lt k hk).1))
  clear hv hg hb
  have VL : Hid (Own .u8 5 (W3.alloc (.cells #[.int .u8 0, .int .u8 pr] 5)) W3.heap.size (.slice (some ⟨W3.heap.size, 0, none⟩) 2 2) [0, pr]) := hid (Own.lit .u8 5 W3 W3.heap.size [0, pr] _ 2 rfl rfl (Nat.le_refl _) (by simp [maxLen]) (by intro z hz; simp at hz; apply ref.u8wf; omega))
  have B := hid (B.out.alloc (by have := B.out.size; omega) (.cells #[.int .u8 0, .int .u8 pr] 5))
  have V3 := hid (V3.out.alloc (.cells #[.int .u8 0, .int .u8 pr] 5))
  go_wp2_with (at_builtin; refine wpList_app _ rfl (.tmp 15) (.tmp 18) _ rfl wrt.elemB w.heap.size v3 (ref.four fr ++ ref.four to) rfl ?c4a (some ⟨W3.heap.size, 0, none⟩) 2 2 ([0, pr]) rfl ?c4b ?c4c ?c4d ?c4e ?c4f ?_)
  case c4a => exact V3.out
  case c4b => exact VL.out.rd
  case c4c => simp
  case c4d => first | (simp [ref.four]; done) | (simp [ref.four]; omega) | omega
  case c4e => unfold maxLen; first | (simp [ref.four]; done) | (simp [ref.four]; omega) | omega
  case c4f => have := B.out.size; first | omega | (simp; omega) | (simp at this; simp; omega)
  intro v4 W4 hv hg hb
  have V4 := hid hv
  have B := hid (B.out.grown hg (by have := B.out.size; first | omega | (simp; omega) | (simp at this; simp; omega)) (fun k hk => ((V3.out).lt k hk).1))
  clear hv hg hb
  go_wp2_with fail
  refine (ref.two1 _ nn).mono ?_
  rintro x w5 ⟨g5, rfl, h5, o5⟩
  have V4 := hid (V4.out.only_nil o5); have B := hid (B.out.trans (o5.below_nil.mono (by have := B.out.size; omega))); have V5 := hid h5; clear h5 o5
  go_wp2_with (at_builtin; refine wpList_app _ rfl (.tmp 19) (.tmp 21) _ rfl wrt.elemB w.heap.size v4 (ref.four fr ++ ref.four to ++ [0, pr]) rfl ?c6a (some ⟨g5, 0, none⟩) 2 2 (ref.two nn) rfl ?c6b ?c6c ?c6d ?c6e ?c6f ?_)
  case c6a => exact V4.out
  case c6b => exact V5.out.rd
  case c6c => simp
  case c6d => first | (simp [ref.four, ref.two]; done) | (simp [ref.four, ref.two]; omega) | omega
  case c6e => unfold maxLen; first | (simp [ref.four, ref.two]; done) | (simp [ref.four, ref.two]; omega) | omega
  case c6f => have := B.out.size; first | omega | (simp; omega) | (simp at this; simp; omega)
  intro v6 W6 hv hg hb
  have V6 := hid hv
  have B := hid (B.out.grown hg (by have := B.out.size; first | omega | (simp; omega) | (simp at this; simp; omega)) (fun k hk => ((V4.out).lt k hk).1))
  clear hv hg hb
  go_wp2
  go_ret
  refine ⟨_, rfl, ?_, Only.of_below B.out⟩
  have h := V6.out
  have h1 : pr / 256 % 256 = 0 := by omega
  have h2 : pr % 256 = pr := by omega
  simpa [ref.four, ref.two, psd, h1, h2] using h
theorem psd_wf (fr to pr nn : Int) : ∀ z ∈ psd fr to pr nn, 0 ≤ z ∧ z ≤ 255 := by
  intro z hz; simp [psd] at hz; omega
set_option maxHeartbeats 2000000 in
theorem summed1 (w : World) (fr to pr : Int) (A : Option Addr) (n c : Nat) (l : List Int) (hl : Rd .u8 w A n l) (hp : 0 ≤ pr ∧ pr ≤ 255) (hn : n ≤ 140737488355328) :
    Calls Try.prog 40 #[.int .u32 fr, .int .u32 to, .int .i64 pr, .slice A n c] w fun x w' => x = .returned (.int .i64 (oct.sumF (psd fr to pr n ++ l))) ∧ Only [] w w' := by
  have HF : Hid (65535 - oct.F (oct.F (oct.ws (psd fr to pr n)) % 65536 + oct.F (oct.ws l) % 65536) = oct.sumF (psd fr to pr n ++ l)) := hid (by
    have w1 := oct.ws_bd (psd fr to pr n) (psd_wf _ _ _ _)
    have w2 := oct.ws_bd l (fun z hz => u8Bd (hl.wf z hz))
    have b1 := oct.F_bd _ w1.1
    have b2 := oct.F_bd _ w2.1
    unfold oct.sumF
    rw [oct.ws_app _ _ (by simp [psd]), Int.emod_eq_of_lt b1.1 (by omega), Int.emod_eq_of_lt b2.1 (by omega)]
    rw [oct.F_add _ _ w1.1 b2.1, Int.add_comm, oct.F_add _ _ w2.1 w1.1, Int.add_comm])
  have HB : Hid (0 ≤ oct.F (oct.F (oct.ws (psd fr to pr n)) % 65536 + oct.F (oct.ws l) % 65536) ∧ oct.F (oct.F (oct.ws (psd fr to pr n)) % 65536 + oct.F (oct.ws l) % 65536) ≤ 65535) := hid (oct.F_bd _ (by omega))
  have HL := hid hl; clear hl
  go_enter Try.func40, Try.ntmps40
  go_wp2_with fail
  refine (pseudo1 _ fr to pr n hp).mono ?_
  rintro x w1 ⟨v1, rfl, h1, o1⟩
  obtain ⟨A1, cap1, ev1, _, _, r1, _⟩ := h1.slice
  have R1 := hid r1; have Q := hid o1; have HL := hid (HL.out.only_nil o1); clear h1 r1 o1
  subst ev1
  go_wp2_with fail
  refine (callsOnly (oct.rpart _ A1 _ cap1 (psd fr to pr n) R1.out (by simp [psd]))).mono ?_
  rintro x w2 ⟨rfl, o2⟩
  have Q := hid (Q.out.trans o2); have HL := hid (HL.out.only_nil o2); clear o2
  go_wp2_with fail
  refine (callsOnly (oct.rpart _ A n c l HL.out hn)).mono ?_
  rintro x w3 ⟨rfl, o3⟩
  have Q := hid (Q.out.trans o3); clear o3
  go_wp2_with fail
  refine (oct.join2 _ _ _).mono ?_
  rintro x w4 ⟨rfl, hw⟩
  subst hw
  have hB := HB.out
  generalize oct.F (oct.F (oct.ws (psd fr to pr n)) % 65536 + oct.F (oct.ws l) % 65536) = s at *
  go_wp2
  go_ret
  exact ⟨rInt HF.out, Q.out⟩
end Go.Proofs.Ytnhakcgkhhficaa.psd
