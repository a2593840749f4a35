/-
  Chapter 11 (udp): a datagram that is read by other addresses than it was written for, on sums and by a walk of the law's text. Conditions: none but those typed.
-/
import Derived.Test.YtnhakcgkhhficaaUdpH
import Derived.Test.YtnhakcgkhhficaaUdpD
namespace Go.Proofs.Ytnhakcgkhhficaa.udp
set_option linter.unusedVariables false
set_option linter.unusedSimpArgs false
open Go.ChangeShapes Go.WideShapes Go.ChangeAt Go.RowKit Go.IntWalk Go.Lib
def W4 (a b : Int) : Int := a / 65536 + a % 65536 + b / 65536 + b % 65536
theorem ws_psd (a b m : Int) (ha : 0 ≤ a ∧ a ≤ 4294967295) (hb : 0 ≤ b ∧ b ≤ 4294967295) (hm : 0 ≤ m ∧ m ≤ 65535) : oct.ws (psd.psd a b 17 m) = W4 a b + 17 + m := by
  simp only [psd.psd, oct.ws, W4]; omega
theorem ws_body (fp tp s : Int) (l : List Int) (hf : 0 ≤ fp ∧ fp ≤ 65535) (ht : 0 ≤ tp ∧ tp ≤ 65535) (hs : 0 ≤ s ∧ s ≤ 65535) (hl : l.length ≤ 65507) : oct.ws (body fp tp s l) = fp + tp + (8 + (l.length : Int)) + s + oct.ws l := by
  simp only [body, oct.ws]; omega
theorem sum_psd (a b m : Int) (q : List Int) (ha : 0 ≤ a ∧ a ≤ 4294967295) (hb : 0 ≤ b ∧ b ≤ 4294967295) (hm : 0 ≤ m ∧ m ≤ 65535) : oct.sumF (psd.psd a b 17 m ++ q) = 65535 - oct.F (W4 a b + 17 + m + oct.ws q) := by
  unfold oct.sumF
  rw [oct.ws_app _ _ (by simp [psd.psd]), ws_psd a b m ha hb hm]
theorem W4_nn (a b : Int) (ha : 0 ≤ a) (hb : 0 ≤ b) : 0 ≤ W4 a b := by unfold W4; omega
theorem fix_ok (X : Int) (hX : 0 < X) : 1 ≤ fixU (65535 - oct.F X) ∧ fixU (65535 - oct.F X) ≤ 65535 ∧ (X + fixU (65535 - oct.F X)) % 65535 = 0 := by
  obtain ⟨r, hr⟩ : ∃ r, (X - 1) % 65535 = r := ⟨_, rfl⟩
  have hF : oct.F X = r + 1 := by unfold oct.F; rw [if_neg (by omega), hr]
  rw [hF]
  unfold fixU
  by_cases h : 65535 - (r + 1) = 0
  · rw [if_pos h]; omega
  · rw [if_neg h]; omega
/-- What is read behind other addresses. -/
theorem whomE (fr fp to tp f t : Int) (l : List Int) (hl : l.length ≤ 65507) (hg : Good fp tp) (hw : ∀ z ∈ l, 0 ≤ z ∧ z ≤ 255) (h1 : 0 ≤ fr ∧ fr ≤ 4294967295) (h2 : 0 ≤ to ∧ to ≤ 4294967295) (h3 : 0 ≤ f ∧ f ≤ 4294967295) (h4 : 0 ≤ t ∧ t ≤ 4294967295) :
    dE f t (encU fr fp to tp l) = if (W4 f t - W4 fr to) % 65535 = 0 then 0 else 4 := by
  obtain ⟨g1, g2⟩ := hg
  have hws := (oct.ws_bd l hw).1
  have hm : 0 ≤ (8 + (l.length : Int)) ∧ (8 + (l.length : Int)) ≤ 65535 := by omega
  have hS : sumU fr fp to tp l = 65535 - oct.F (W4 fr to + 17 + (8 + (l.length : Int)) + (fp + tp + (8 + (l.length : Int)) + 0 + oct.ws l)) := by
    unfold sumU
    rw [show (((8 + l.length : Nat)) : Int) = 8 + (l.length : Int) from by omega, sum_psd fr to _ _ h1 h2 hm, ws_body fp tp 0 l g1 g2 (by omega) hl]
  have n1 := W4_nn fr to h1.1 h2.1
  have n2 := W4_nn f t h3.1 h4.1
  obtain ⟨s, hs⟩ : ∃ s, fixU (sumU fr fp to tp l) = s := ⟨_, rfl⟩
  have hsb : 1 ≤ s ∧ s ≤ 65535 ∧ (W4 fr to + 17 + (8 + (l.length : Int)) + (fp + tp + (8 + (l.length : Int)) + 0 + oct.ws l) + s) % 65535 = 0 := by
    rw [← hs, hS]
    have hfx := fix_ok (W4 fr to + 17 + (8 + (l.length : Int)) + (fp + tp + (8 + (l.length : Int)) + 0 + oct.ws l)) (by omega)
    exact hfx
  have hE : encU fr fp to tp l = body fp tp s l := by unfold encU; rw [hs]
  have hlen : (body fp tp s l).length = 8 + l.length := body_len _ _ _ _
  have hL : lenU (body fp tp s l) = 8 + (l.length : Int) := by
    unfold lenU
    simp [ref.get2, body]; omega
  have h6 : ref.get2 (body fp tp s l) 6 = s := by simp [ref.get2, body]; omega
  have hB : badU f t (body fp tp s l) = decide (¬ (W4 f t - W4 fr to) % 65535 = 0) := by
    unfold badU
    rw [h6, hL, List.take_of_length_le (by rw [hlen]; omega), sum_psd f t _ _ h3 h4 hm, ws_body fp tp s l g1 g2 (by omega) hl]
    have hs0 : (s != 0) = true := by simp; omega
    rw [hs0, Bool.true_and]
    obtain ⟨k1, k2, k3⟩ := hsb
    generalize W4 f t = w' at *
    generalize W4 fr to = w at *
    generalize oct.ws l = x at *
    have hF : oct.F (w' + 17 + (8 + (l.length : Int)) + (fp + tp + (8 + (l.length : Int)) + s + x)) = (w' + 17 + (8 + (l.length : Int)) + (fp + tp + (8 + (l.length : Int)) + s + x) - 1) % 65535 + 1 := by unfold oct.F; rw [if_neg (by omega)]
    rw [hF]
    by_cases hz : (w' - w) % 65535 = 0
    · simp only [hz]; simp; omega
    · simp only [hz]; simp; omega
  rw [hE]
  unfold dE
  rw [if_neg (by rw [hlen]; omega), if_neg (by rw [hL]; omega), if_neg (by rw [hL, hlen]; omega), hB]
  by_cases hz : (W4 f t - W4 fr to) % 65535 = 0 <;> simp [hz]
theorem words1 (w : World) (a : Int) (ha : 0 ≤ a ∧ a ≤ 4294967295) : Calls Try.prog 29 #[.int .u32 a] w fun e w' => e = .returned (.int .i64 ((a / 65536 + a % 65536) % 65535)) ∧ Only [] w w' := by
  have hb : bits .and .u32 a 65535 = a % 65536 := by
    obtain ⟨N, rfl⟩ := Int.eq_ofNat_of_zero_le ha.1
    show IntKind.u32.wrap ((BitVec.ofInt 32 N &&& BitVec.ofInt 32 65535).toNat : Nat) = _
    have key : (BitVec.ofInt 32 (N : Int) &&& BitVec.ofInt 32 65535).toNat = N % 65536 := by
      rw [BitVec.toNat_and, BitVec.toNat_ofInt, show (BitVec.ofInt 32 65535).toNat = 2 ^ 16 - 1 from by decide, Nat.and_two_pow_sub_one_eq_mod]
      have : ((N : Int) % ((2 ^ 32 : Nat) : Int)).toNat = N := by omega
      rw [this]
    rw [key, IntKind.wrap_u32]
    omega
  go_enter Try.func29, Try.ntmps29
  go_wp2
  go_ret
  exact ⟨rInt (by omega), Only.refl _ _⟩
end Go.Proofs.Ytnhakcgkhhficaa.udp
