/-
  Chapter 14 (segment): each part of a segment at its place, the law by a walk of its text, its end. Conditions: none but those typed.
-/
import Derived.Test.YtkpdgfimibmoeaaSegE
namespace Go.Proofs.Ytkpdgfimibmoeaa.seg
set_option linter.unusedVariables false
set_option linter.unusedSimpArgs false
open Go.ChangeShapes Go.WideShapes Go.ChangeAt Go.RowKit Go.IntWalk Go.Lib
theorem opt_len4 (ms sc : Int) : (opt ms sc).length = 0 ∨ (opt ms sc).length = 4 ∨ (opt ms sc).length = 8 := by
  unfold opt; split <;> split <;> simp
theorem chk_good {fp tp fl wi ms sc : Int} {n : Nat} (h : chk fp tp fl wi ms sc n = 0) : Good fp tp fl wi ms sc ∧ n + (opt ms sc).length ≤ 65495 := by
  unfold chk at h
  split at h
  · rename_i hg
    split at h
    · cases h
    · exact ⟨hg, by omega⟩
  · cases h
/-- Two bytes, and four, as numbers, at a place. -/
def twoF (e : List Int) (x : Int) : Int := e.getD x.toNat 0 * 256 + e.getD (x.toNat + 1) 0
def fourF (e : List Int) (x : Int) : Int := ref.get4 e x.toNat
theorem two_any (w : World) (t g L cap : Nat) (e : List Int) (x : Int) (ht : Ob w t 24 #[.slice (some ⟨g, 0, none⟩) L cap]) (he : Rd .u8 w (some ⟨g, 0, none⟩) L e) (hx : 0 ≤ x) (hi : x + 1 < L) (hL : L ≤ 100000) :
    Calls Try.prog 26 #[.int .i64 x, .pointer (some ⟨t, 0, none⟩)] w fun x' w' => x' = .returned (.int .i64 (twoF e x)) ∧ ∃ m, w' = w.drewN m :=
  two_at w t g L cap e x x.toNat ht he (by omega) (by omega) hL
theorem four_any (w : World) (t g L cap : Nat) (e : List Int) (x : Int) (ht : Ob w t 24 #[.slice (some ⟨g, 0, none⟩) L cap]) (he : Rd .u8 w (some ⟨g, 0, none⟩) L e) (hx : 0 ≤ x) (hi : x + 3 < L) (hL : L ≤ 100000) :
    Calls Try.prog 25 #[.int .i64 x, .pointer (some ⟨t, 0, none⟩)] w fun x' w' => x' = .returned (.int .u32 (fourF e x)) ∧ ∃ m, w' = w.drewN m :=
  four_at w t g L cap e x x.toNat ht he (by omega) (by omega) hL
/-- Where the parts of a segment stand. -/
structure Parts (e l : List Int) (fp tp sq ac fl wi : Int) (o : Nat) : Prop where
  p0 : e.getD 0 0 * 256 + e.getD 1 0 = fp
  p2 : e.getD 2 0 * 256 + e.getD 3 0 = tp
  p4 : ref.get4 e 4 = sq
  p8 : ref.get4 e 8 = ac
  p12 : e.getD 12 0 = (20 + (o : Int)) / 4 * 16 % 256
  p13 : e.getD 13 0 = fl
  p14 : e.getD 14 0 * 256 + e.getD 15 0 = wi
  p18 : e.getD 18 0 * 256 + e.getD 19 0 = 0
  pd : e.drop (20 + o) = l
  len : e.length = 20 + o + l.length
theorem parts_enc (fr to sq ac fp tp fl wi ms sc : Int) (l : List Int) (h : Good fp tp fl wi ms sc) (h4 : 0 ≤ sq ∧ sq ≤ 4294967295) (h5 : 0 ≤ ac ∧ ac ≤ 4294967295) : Parts (encB fr to sq ac fp tp fl wi ms sc l) l fp tp sq ac fl wi (opt ms sc).length := by
  unfold Good at h
  unfold encB
  generalize sumS fr to sq ac fp tp fl wi (opt ms sc) l = s
  generalize opt ms sc = o
  refine ⟨?_, ?_, ?_, ?_, ?_, ?_, ?_, ?_, ?_, ?_⟩
  · simp [body]; omega
  · simp [body]; omega
  · simp [body, ref.get4]; omega
  · simp [body, ref.get4]; omega
  · simp [body]
  · simp [body]; omega
  · simp [body]; omega
  · simp [body]
  · simp [body, Nat.add_comm 20]
  · rw [body_len]
end Go.Proofs.Ytkpdgfimibmoeaa.seg
