/-
  Bit operations with masks, and the join of two bytes. Conditions: none but those typed.
-/
import Derived.Laws.BitsAllLaws
import Derived.Laws.BitsLemmas
import Derived.WalkKit
namespace Go.Proofs.Ytdpmjghdmpaehaa
theorem i64_mask (n : Int) (s m : Nat) (hm : (BitVec.ofInt 64 (m : Int)).toNat = 2 ^ s - 1) (hs : s < 63) : bits .and .i64 n (m : Int) = n % (2 ^ s : Nat) := by
  have key : (BitVec.ofInt 64 n &&& BitVec.ofInt 64 (m : Int)).toNat = (n % ((2 ^ 64 : Nat) : Int)).toNat % 2 ^ s := by
    rw [BitVec.toNat_and, BitVec.toNat_ofInt, hm, Nat.and_two_pow_sub_one_eq_mod]
  show IntKind.i64.wrap ((BitVec.ofInt 64 n &&& BitVec.ofInt 64 (m : Int)).toNat : Nat) = _
  have hd : (2 ^ s : Nat) ∣ 2 ^ 64 := Nat.pow_dvd_pow 2 (by omega)
  have hle : 2 ^ s ≤ 2 ^ 62 := Nat.pow_le_pow_right (by omega) (by omega)
  have hpos : 0 < 2 ^ s := Nat.pow_pos (by omega)
  have hlt : (n % ((2 ^ 64 : Nat) : Int)).toNat % 2 ^ s < 2 ^ s := Nat.mod_lt _ hpos
  have hcast : (((n % ((2 ^ 64 : Nat) : Int)).toNat % 2 ^ s : Nat) : Int) = n % (2 ^ s : Nat) := by
    rw [Int.natCast_emod, Int.toNat_of_nonneg (Int.emod_nonneg _ (by decide))]
    exact Int.emod_emod_of_dvd n (Int.natCast_dvd_natCast.2 hd)
  have hle' : 2 ^ s ≤ 4611686018427387904 := Nat.le_trans hle (by decide)
  rw [key, IntKind.wrap_i64, hcast]
  generalize 2 ^ s = t at *
  have h0 : 0 ≤ n % (t : Int) := Int.emod_nonneg _ (by omega)
  have h1 : n % (t : Int) < t := Int.emod_lt_of_pos _ (by omega)
  generalize n % (t : Int) = q at *
  omega
theorem i64_and65535 (n : Int) : bits .and .i64 n 65535 = n % 65536 := i64_mask n 16 65535 (by decide) (by decide)
theorem i64_and255 (n : Int) : bits .and .i64 n 255 = n % 256 := i64_mask n 8 255 (by decide) (by decide)
theorem u64_mask (n : Int) (h : 0 ≤ n) (h' : n < 18446744073709551616) (s m : Nat) (hm : m = 2 ^ s - 1) (hl : m < 18446744073709551616) : bits .and .u64 n (m : Int) = n % (2 ^ s : Nat) := by
  obtain ⟨N, rfl⟩ := Int.eq_ofNat_of_zero_le h
  rw [u64_and_nat N m (by omega) hl, hm, Nat.and_two_pow_sub_one_eq_mod]
  simp
theorem u64_and65535 (n : Int) (h : 0 ≤ n) (h' : n < 18446744073709551616) : bits .and .u64 n 65535 = n % 65536 := u64_mask n h h' 16 65535 (by decide) (by decide)
theorem nat_join (x y : Nat) (hy : y < 256) : x * 256 ||| y = x * 256 + y := by
  have h := Nat.two_pow_add_eq_or_of_lt (i := 8) hy x
  simp only [show (2 : Nat) ^ 8 = 256 from rfl] at h
  rw [Nat.mul_comm, ← h]
theorem u64_join8 (x y : Int) (hx : 0 ≤ x) (hx' : x < 4294967296) (hy : 0 ≤ y) (hy' : y < 256) : bits .or .u64 (x * 256) y = x * 256 + y := by
  obtain ⟨X, rfl⟩ := Int.eq_ofNat_of_zero_le hx
  obtain ⟨Y, rfl⟩ := Int.eq_ofNat_of_zero_le hy
  have := u64_or_nat (X * 256) Y (by omega) (by omega)
  rw [nat_join X Y (by omega)] at this
  simpa using this
end Go.Proofs.Ytdpmjghdmpaehaa
