/-
  A join of bits that do not meet is a sum. Conditions: none but those typed.
-/
import Derived.Test.YtdpmjghdmpaehaaBit
namespace Go.Proofs.Ytdpmjghdmpaehaa
theorem nat_or_mul (a b s : Nat) (hb : b < 2 ^ s) : a * 2 ^ s ||| b = a * 2 ^ s + b := by
  have h := Nat.two_pow_add_eq_or_of_lt (i := s) hb a
  rw [Nat.mul_comm, ← h]
theorem i64_or_nat (a b : Nat) (ha : a < 9223372036854775808) (hb : b < 9223372036854775808) : bits .or .i64 (a : Int) (b : Int) = ((a ||| b : Nat) : Int) := by
  have h1 : ((a : Int) % ((2 ^ 64 : Nat) : Int)).toNat = a := by simp only [Nat.reducePow]; omega
  have h2 : ((b : Int) % ((2 ^ 64 : Nat) : Int)).toNat = b := by simp only [Nat.reducePow]; omega
  have h3 : a ||| b < 2 ^ 63 := Nat.or_lt_two_pow (by simpa using ha) (by simpa using hb)
  have h4 : (BitVec.ofInt 64 (a : Int) ||| BitVec.ofInt 64 (b : Int)).toNat = a ||| b := by rw [BitVec.toNat_or, BitVec.toNat_ofInt, BitVec.toNat_ofInt, h1, h2]
  show IntKind.i64.wrap ((BitVec.ofInt 64 (a : Int) ||| BitVec.ofInt 64 (b : Int)).toNat : Nat) = _
  rw [h4, IntKind.wrap_i64]
  simp only [Nat.reducePow] at h3
  generalize a ||| b = q at *
  omega
theorem u32_or_mul (a b : Int) (s M : Nat) (hM : M = 2 ^ s) (ha : 0 ≤ a) (hb : 0 ≤ b) (hb' : b < M) (h : a * M + b < 4294967296) : bits .or .u32 (a * M) b = a * M + b := by
  obtain ⟨A, rfl⟩ := Int.eq_ofNat_of_zero_le ha
  obtain ⟨B, rfl⟩ := Int.eq_ofNat_of_zero_le hb
  have hb2 : B < M := by exact_mod_cast hb'
  have h2 : A * M + B < 4294967296 := by
    have h3 : ((A * M + B : Nat) : Int) < 4294967296 := by rw [Int.natCast_add, Int.natCast_mul]; exact h
    generalize A * M + B = q at *
    omega
  have e := u32_or_nat (A * M) B (by omega) (by omega)
  have e2 : A * M ||| B = A * M + B := by rw [hM]; exact nat_or_mul A B s (by rw [← hM]; exact hb2)
  rw [e2] at e
  rw [show ((A : Int) * (M : Int)) = ((A * M : Nat) : Int) from (Int.natCast_mul A M).symm, e, Int.natCast_add]
theorem i64_or_mul (a b : Int) (s M : Nat) (hM : M = 2 ^ s) (ha : 0 ≤ a) (hb : 0 ≤ b) (hb' : b < M) (h : a * M + b < 9223372036854775808) : bits .or .i64 (a * M) b = a * M + b := by
  obtain ⟨A, rfl⟩ := Int.eq_ofNat_of_zero_le ha
  obtain ⟨B, rfl⟩ := Int.eq_ofNat_of_zero_le hb
  have hb2 : B < M := by exact_mod_cast hb'
  have h2 : A * M + B < 9223372036854775808 := by
    have h3 : ((A * M + B : Nat) : Int) < 9223372036854775808 := by rw [Int.natCast_add, Int.natCast_mul]; exact h
    generalize A * M + B = q at *
    omega
  have e := i64_or_nat (A * M) B (by omega) (by omega)
  have e2 : A * M ||| B = A * M + B := by rw [hM]; exact nat_or_mul A B s (by rw [← hM]; exact hb2)
  rw [e2] at e
  rw [show ((A : Int) * (M : Int)) = ((A * M : Nat) : Int) from (Int.natCast_mul A M).symm, e, Int.natCast_add]
theorem or_get4 (x y z u : Int) (hx : 0 ≤ x ∧ x ≤ 255) (hy : 0 ≤ y ∧ y ≤ 255) (hz : 0 ≤ z ∧ z ≤ 255) (hu : 0 ≤ u ∧ u ≤ 255) :
    bits .or .u32 (bits .or .u32 (bits .or .u32 (x * 16777216) (y * 65536)) (z * 256)) u = x * 16777216 + y * 65536 + z * 256 + u := by
  have j1 := u32_or_mul x (y * 65536) 24 16777216 (by decide) (by omega) (by omega) (by omega) (by omega)
  have j2 := u32_or_mul (x * 256 + y) (z * 256) 16 65536 (by decide) (by omega) (by omega) (by omega) (by omega)
  have j3 := u32_or_mul (x * 65536 + y * 256 + z) u 8 256 (by decide) (by omega) (by omega) (by omega) (by omega)
  have e1 : x * ((16777216 : Nat) : Int) = x * 16777216 := rfl
  have e2 : (x * 256 + y) * ((65536 : Nat) : Int) = x * 16777216 + y * 65536 := by show (x * 256 + y) * 65536 = _; omega
  have e3 : (x * 65536 + y * 256 + z) * ((256 : Nat) : Int) = x * 16777216 + y * 65536 + z * 256 := by show (x * 65536 + y * 256 + z) * 256 = _; omega
  rw [e1] at j1
  rw [e2] at j2
  rw [e3] at j3
  rw [j1, j2, j3]
end Go.Proofs.Ytdpmjghdmpaehaa
