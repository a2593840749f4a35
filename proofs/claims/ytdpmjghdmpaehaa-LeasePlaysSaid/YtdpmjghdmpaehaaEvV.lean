/-
  Entries of the table whose outcome is given in plain arithmetic. Conditions: none.
-/
import Derived.Test.YtdpmjghdmpaehaaEvS
import Derived.Test.YtdpmjghdmpaehaaBit
import Derived.Test.YtdpmjghdmpaehaaOrm
namespace Go.Proofs.Ytdpmjghdmpaehaa.ev
set_option linter.unusedVariables false
set_option linter.unusedSimpArgs false
theorem fdiv_nat (a : Int) (m : Nat) : a.fdiv (m : Int) = a / m := Int.fdiv_eq_ediv_of_nonneg a (by omega)
theorem mask_i64 (a : Int) (s m M : Nat) (hm : (BitVec.ofInt 64 (m : Int)).toNat = 2 ^ s - 1) (hs : s < 63) (hM : M = 2 ^ s) : band .i64 a (m : Int) = a % (M : Int) := by
  subst hM; exact i64_mask a s m hm hs
theorem mask_u64 (a : Int) (h : 0 ≤ a) (h' : a < 18446744073709551616) (s m M : Nat) (hm : m = 2 ^ s - 1) (hl : m < 18446744073709551616) (hM : M = 2 ^ s) : band .u64 a (m : Int) = a % (M : Int) := by
  subst hM; exact u64_mask a h h' s m hm hl
theorem join_u32 (a b : Int) (s M : Nat) (hM : M = 2 ^ s) (ha : 0 ≤ a) (hb : 0 ≤ b) (hb' : b < M) (h : a * M + b < 4294967296) : bor .u32 (a * M) b = a * M + b := u32_or_mul a b s M hM ha hb hb' h
theorem join_i64 (a b : Int) (s M : Nat) (hM : M = 2 ^ s) (ha : 0 ≤ a) (hb : 0 ≤ b) (hb' : b < M) (h : a * M + b < 9223372036854775808) : bor .i64 (a * M) b = a * M + b := i64_or_mul a b s M hM ha hb hb' h
variable [Env] {P : Program}
theorem entAndV {x y : Value} {k : IntKind} {a b c : Int} {j : Nat} (hx : real x = .int k a) (hy : real y = .int k b) (hj : Env.E j = .int k c) (h : band k a b = c) : EntOK P (.bin .and x y (.chan (some j))) :=
  entAnd hx hy (by rw [hj, h])
theorem entOrV {x y : Value} {k : IntKind} {a b c : Int} {j : Nat} (hx : real x = .int k a) (hy : real y = .int k b) (hj : Env.E j = .int k c) (h : bor k a b = c) : EntOK P (.bin .or x y (.chan (some j))) :=
  entOr hx hy (by rw [hj, h])
theorem entConvV {x : Value} {k l : IntKind} {a c : Int} {j : Nat} (hx : real x = .int l a) (hj : Env.E j = .int k c) (h : k.wrap a = c) : EntOK P (.conv k x (.chan (some j))) :=
  entConv hx (by rw [hj, h])
theorem entArithI {op : BinOp} {x y : Value} {k : IntKind} {a b c : Int} (hx : real x = .int k a) (hy : real y = .int k b)
    (h : (match op with | .add => some (k.wrap (a + b)) | .sub => some (k.wrap (a - b)) | .mul => some (k.wrap (a * b)) | _ => none) = some c) : EntOK P (.bin op x y (.int k c)) := by
  refine ⟨⟨k, a, hx⟩, ⟨k, b, hy⟩, .inr (.inr ⟨k, c, rfl⟩), fun t w => ?_⟩
  rw [hx, hy]
  cases op <;> simp only [Option.some.injEq, reduceCtorEq] at h <;> subst h <;> simp [Go.binOp, Op.intArith, real]
theorem entAndI {x y : Value} {k : IntKind} {a b c : Int} (hx : real x = .int k a) (hy : real y = .int k b) (h : band k a b = c) : EntOK P (.bin .and x y (.int k c)) := by
  refine ⟨⟨k, a, hx⟩, ⟨k, b, hy⟩, .inr (.inr ⟨k, c, rfl⟩), fun t w => ?_⟩
  rw [hx, hy]
  subst h
  simp [Go.binOp, Op.intBits, real, band]
theorem entRemI {x y : Value} {k : IntKind} {a b c : Int} (hx : real x = .int k a) (hy : real y = .int k b) (h0 : b ≠ 0) (h : a.tmod b = c) : EntOK P (.bin .rem x y (.int k c)) := by
  refine ⟨⟨k, a, hx⟩, ⟨k, b, hy⟩, .inr (.inr ⟨k, c, rfl⟩), fun t w => ?_⟩
  rw [hx, hy]
  subst h
  simp [Go.binOp, Op.intDiv, real, h0]
theorem entConvI {x : Value} {k l : IntKind} {a c : Int} (hx : real x = .int l a) (h : k.wrap a = c) : EntOK P (.conv k x (.int k c)) :=
  ⟨l, a, hx, .inr (.inr ⟨k, c, rfl⟩), by simp [real, h]⟩
theorem entQuoV {x y : Value} {k : IntKind} {a b c : Int} {j : Nat} (hx : real x = .int k a) (hy : real y = .int k b) (hj : Env.E j = .int k c) (h0 : b ≠ 0) (h : k.wrap (a.tdiv b) = c) : EntOK P (.bin .quo x y (.chan (some j))) := by
  refine ⟨⟨k, a, hx⟩, ⟨k, b, hy⟩, .inr (.inl ⟨j, rfl, k, c, hj⟩), fun t w => ?_⟩
  rw [hx, hy]
  simp [Go.binOp, Op.intDiv, real, hj, h0, h]
theorem entShrV {x y : Value} {k l : IntKind} {a c : Int} {s : Nat} {j : Nat} (hx : real x = .int k a) (hy : real y = .int l (s : Int)) (hj : Env.E j = .int k c) (hs : s ≤ k.bits) (h : a.fdiv (2 ^ s) = c) : EntOK P (.bin .shr x y (.chan (some j))) := by
  refine ⟨⟨k, a, hx⟩, ⟨l, _, hy⟩, .inr (.inl ⟨j, rfl, k, _, hj⟩), fun t w => ?_⟩
  rw [hx, hy]
  have h0 : ¬ ((s : Int) < 0) := by omega
  simp [Go.binOp, Op.shift, real, hj, h0, Nat.min_eq_left hs, h]
theorem entShlV {x y : Value} {k l : IntKind} {a c : Int} {s : Nat} {j : Nat} (hx : real x = .int k a) (hy : real y = .int l (s : Int)) (hj : Env.E j = .int k c) (hs : s ≤ k.bits) (h : k.wrap (a * 2 ^ s) = c) : EntOK P (.bin .shl x y (.chan (some j))) := by
  refine ⟨⟨k, a, hx⟩, ⟨l, _, hy⟩, .inr (.inl ⟨j, rfl, k, _, hj⟩), fun t w => ?_⟩
  rw [hx, hy]
  have h0 : ¬ ((s : Int) < 0) := by omega
  simp [Go.binOp, Op.shift, real, hj, h0, Nat.min_eq_left hs, h]
end Go.Proofs.Ytdpmjghdmpaehaa.ev
