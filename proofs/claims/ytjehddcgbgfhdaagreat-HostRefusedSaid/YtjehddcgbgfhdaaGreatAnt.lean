/-
  Bits cleared below a power of two: opaque numbers of 32 bits. Conditions: none.
-/
import Derived.Test.YtjehddcgbgfhdaaGreatEvV
namespace Go.Proofs.YtjehddcgbgfhdaaGreat.ev
set_option linter.unusedVariables false
set_option linter.unusedSimpArgs false
theorem low_clear (N s : Nat) (hN : N < 2 ^ 32) (hs : s < 32) : N &&& (2 ^ 32 - (2 ^ s - 1 + 1)) = N / 2 ^ s * 2 ^ s := by
  apply Nat.eq_of_testBit_eq
  intro i
  have hl : 2 ^ s - 1 < 2 ^ 32 := by
    have := Nat.pow_lt_pow_right (a := 2) (by omega) hs
    omega
  rw [Nat.testBit_and, Nat.testBit_two_pow_sub_succ hl, Nat.testBit_two_pow_sub_one, Nat.testBit_mul_two_pow]
  by_cases h : i < s
  · have : ¬ s ≤ i := by omega
    simp [h, this]
  · have h2 : s ≤ i := by omega
    rw [Nat.testBit_div_two_pow]
    by_cases h3 : i < 32
    · simp [h, h2, h3, show i - s + s = i by omega]
    · have : N.testBit i = false := Nat.testBit_lt_two_pow (Nat.lt_of_lt_of_le hN (Nat.pow_le_pow_right (by omega) (by omega)))
      simp [h, h2, this, show i - s + s = i by omega]
def bnot (k : IntKind) (a b : Int) : Int := k.wrap ((BitVec.ofInt k.bits a &&& ~~~BitVec.ofInt k.bits b).toNat : Int)
theorem clear_u32 (a : Int) (h : 0 ≤ a) (h' : a < 4294967296) (s m M : Nat) (hm : m = 2 ^ s - 1) (hs : s < 32) (hM : M = 2 ^ s) : bnot .u32 a (m : Int) = a / (M : Int) * (M : Int) := by
  subst hM hm
  obtain ⟨N, rfl⟩ := Int.eq_ofNat_of_zero_le h
  have hN : N < 2 ^ 32 := by omega
  have hl : 2 ^ s - 1 < 2 ^ 32 := by
    have := Nat.pow_lt_pow_right (a := 2) (by omega) hs
    omega
  have e1 : (BitVec.ofInt 32 (N : Int)).toNat = N := by
    rw [BitVec.toNat_ofInt]; omega
  have e2 : (BitVec.ofInt 32 ((2 ^ s - 1 : Nat) : Int)).toNat = 2 ^ s - 1 := by
    rw [BitVec.toNat_ofInt]; generalize 2 ^ s - 1 = t at *; omega
  have key : (BitVec.ofInt 32 (N : Int) &&& ~~~BitVec.ofInt 32 ((2 ^ s - 1 : Nat) : Int)).toNat = N / 2 ^ s * 2 ^ s := by
    rw [BitVec.toNat_and, BitVec.toNat_not, e1, e2, ← low_clear N s hN hs]
    congr 1
    generalize 2 ^ s - 1 = t at *
    omega
  show IntKind.u32.wrap ((BitVec.ofInt 32 (N : Int) &&& ~~~BitVec.ofInt 32 ((2 ^ s - 1 : Nat) : Int)).toNat : Int) = _
  rw [key, IntKind.wrap_u32]
  have hle : N / 2 ^ s * 2 ^ s ≤ N := Nat.div_mul_le_self N (2 ^ s)
  have hc : ((N / 2 ^ s * 2 ^ s : Nat) : Int) = (N : Int) / ((2 ^ s : Nat) : Int) * ((2 ^ s : Nat) : Int) := by simp
  rw [← hc]
  generalize N / 2 ^ s * 2 ^ s = q at *
  omega
theorem high_u32 (a : Int) (h : 0 ≤ a) (h' : a < 4294967296) (s m M : Nat) (hm : m + 2 ^ s = 4294967296) (hs : s < 32) (hM : M = 2 ^ s) : band .u32 a (m : Int) = a / (M : Int) * (M : Int) := by
  subst hM
  obtain ⟨N, rfl⟩ := Int.eq_ofNat_of_zero_le h
  have hN : N < 2 ^ 32 := by omega
  have hpos : 0 < 2 ^ s := Nat.pow_pos (by omega)
  have e1 : (BitVec.ofInt 32 (N : Int)).toNat = N := by
    rw [BitVec.toNat_ofInt]; omega
  have e2 : (BitVec.ofInt 32 (m : Int)).toNat = m := by
    rw [BitVec.toNat_ofInt]; generalize 2 ^ s = t at *; omega
  have key : (BitVec.ofInt 32 (N : Int) &&& BitVec.ofInt 32 (m : Int)).toNat = N / 2 ^ s * 2 ^ s := by
    rw [BitVec.toNat_and, e1, e2, ← low_clear N s hN hs]
    congr 1
    generalize 2 ^ s = t at *
    omega
  show IntKind.u32.wrap ((BitVec.ofInt 32 (N : Int) &&& BitVec.ofInt 32 (m : Int)).toNat : Int) = _
  rw [key, IntKind.wrap_u32]
  have hle : N / 2 ^ s * 2 ^ s ≤ N := Nat.div_mul_le_self N (2 ^ s)
  have hc : ((N / 2 ^ s * 2 ^ s : Nat) : Int) = (N : Int) / ((2 ^ s : Nat) : Int) * ((2 ^ s : Nat) : Int) := by simp
  rw [← hc]
  generalize N / 2 ^ s * 2 ^ s = q at *
  omega
theorem low_u32 (a : Int) (h : 0 ≤ a) (h' : a < 4294967296) (s m M : Nat) (hm : m = 2 ^ s - 1) (hs : s < 32) (hM : M = 2 ^ s) : band .u32 a (m : Int) = a % (M : Int) := by
  subst hM hm
  obtain ⟨N, rfl⟩ := Int.eq_ofNat_of_zero_le h
  have hN : N < 2 ^ 32 := by omega
  have hl : 2 ^ s - 1 < 2 ^ 32 := by
    have := Nat.pow_lt_pow_right (a := 2) (by omega) hs
    omega
  have e1 : (BitVec.ofInt 32 (N : Int)).toNat = N := by
    rw [BitVec.toNat_ofInt]; omega
  have e2 : (BitVec.ofInt 32 ((2 ^ s - 1 : Nat) : Int)).toNat = 2 ^ s - 1 := by
    rw [BitVec.toNat_ofInt]; generalize 2 ^ s - 1 = t at *; omega
  have key : (BitVec.ofInt 32 (N : Int) &&& BitVec.ofInt 32 ((2 ^ s - 1 : Nat) : Int)).toNat = N % 2 ^ s := by
    rw [BitVec.toNat_and, e1, e2, Nat.and_two_pow_sub_one_eq_mod]
  show IntKind.u32.wrap ((BitVec.ofInt 32 (N : Int) &&& BitVec.ofInt 32 ((2 ^ s - 1 : Nat) : Int)).toNat : Int) = _
  rw [key, IntKind.wrap_u32]
  have hle : N % 2 ^ s ≤ N := Nat.mod_le N (2 ^ s)
  have hc : ((N % 2 ^ s : Nat) : Int) = (N : Int) % ((2 ^ s : Nat) : Int) := by simp
  rw [← hc]
  generalize N % 2 ^ s = q at *
  omega
variable [Env] {P : Program}
theorem entNotV {x y : Value} {k : IntKind} {a b c : Int} {j : Nat} (hx : real x = .int k a) (hy : real y = .int k b) (hj : Env.E j = .int k c) (h : bnot k a b = c) : EntOK P (.bin .andNot x y (.chan (some j))) := by
  refine ⟨⟨k, a, hx⟩, ⟨k, b, hy⟩, .inr (.inl ⟨j, rfl, k, c, hj⟩), fun t w => ?_⟩
  rw [hx, hy]
  subst h
  simp [Go.binOp, Op.intBits, real, hj, bnot]
end Go.Proofs.YtjehddcgbgfhdaaGreat.ev
