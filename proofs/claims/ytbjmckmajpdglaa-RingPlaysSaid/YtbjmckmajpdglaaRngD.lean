/-
  Chapter 13 (ring): a Ring's functions, and the document's, each by a walk of its text. Conditions: none but those typed.
-/
import Derived.Test.YtbjmckmajpdglaaRngC
namespace Go.Proofs.Ytbjmckmajpdglaa.rng
set_option linter.unusedVariables false
set_option linter.unusedSimpArgs false
open Go.ChangeShapes Go.WideShapes Go.ChangeAt Go.RowKit Go.IntWalk Go.Lib
/-- What Drop takes away. -/
def dropN (l : List Int) (n : Int) : Nat := (min n (l.length : Int)).toNat
def DEnd (w : World) (g b N : Nat) (z l : List Int) (k : Nat) (x : Ending) (w' : World) : Prop := x = .returned (.int .i64 (k : Nat)) ∧ ∃ f', Rel N f' z (l.drop k) ∧ RObj w' g b N f' (l.drop k).length ∧ Only [g] w w'
set_option maxHeartbeats 400000 in
theorem drop (w : World) (g b N f : Nat) (z l : List Int) (n : Int) (H : RObj w g b N f l.length) (hrel : Rel N f z l) (hN : 1 ≤ N ∧ N ≤ 1048560) (hn : -9223372036854775808 ≤ n ∧ n ≤ 9223372036854775807) :
    Calls Try.prog 20 #[.pointer (some ⟨g, 0, none⟩), .int .i64 n] w (DEnd w g b N z l (dropN l n)) := by
  have hfit := hrel.fits
  have hf := hrel.first
  have HR := hid H; have HRel := hid hrel
  clear H hrel
  have HZero : Hid (dropN l n = 0 → DEnd w g b N z l (dropN l n) (.returned (.int .i64 0)) w) := hid (fun h => by rw [h]; exact ⟨rfl, f, by simpa using HRel.out, by simpa using HR.out, Only.refl _ _⟩)
  by_cases hm : n ≤ (l.length : Int)
  · by_cases h1 : n < 1
    · have HD : Hid (dropN l n = 0) := hid (by unfold dropN; omega)
      have hmi : ¬ ((l.length : Int) < n) := by omega
      go_enter Try.func20, Try.ntmps20
      go_wp2_with fail
      refine (len _ g b N f l.length HR.out).mono ?_
      rintro x w2 ⟨rfl, rfl⟩
      go_wp2
      go_ret
      exact HZero.out HD.out
    · obtain ⟨k, rfl⟩ : ∃ k : Nat, n = (k : Int) := ⟨n.toNat, by omega⟩
      have hmi : ¬ ((l.length : Int) < (k : Int)) := by omega
      rw [show dropN l (k : Int) = k from by unfold dropN; omega]
      clear HZero
      go_enter Try.func20, Try.ntmps20
      go_wp2_with fail
      refine (len _ g b N f l.length HR.out).mono ?_
      rintro x w2 ⟨rfl, rfl⟩
      go_wp2_with fail
      refine (place _ g b N f l.length (k) HR.out hN hf (by omega)).mono ?_
      rintro x w3 ⟨rfl, q, rfl⟩
      have HB : Hid (Only [g] w (w.drewN q)) := hid ((Only.refl _ w).drewN q)
      have HR := hid (HR.out.drewN q)
      have c1 : (w.drewN q).cell? ⟨g, 1, none⟩ = some (.int .i64 f) := HR.out.cell 1
      have f1 := HR.out.frozen 1
      have c2 : (w.drewN q).cell? ⟨g, 2, none⟩ = some (.int .i64 (l.length : Nat)) := HR.out.cell 2
      have f2 := HR.out.frozen 2
      generalize w.drewN q = w1 at *
      have hlen : (l.length : Int) - (k : Nat) = ((l.length - k : Nat) : Int) := by omega
      go_wp2
      go_ret
      refine ⟨rfl, (f + k) % N, HRel.out.drop (k) (by omega), ?_, (HB.out.setCell (p := ⟨g, 1, none⟩) (.inl (by simp)) _).setCell (p := ⟨g, 2, none⟩) (.inl (by simp)) _⟩
      have := (HR.out.set 1 (.int .i64 ((f + k) % N : Nat))).set 2 (.int .i64 ((l.length : Int) - (k : Nat)))
      rw [hlen] at this
      simpa [RObj, List.length_drop] using this
  · have hmi : ((l.length : Int) < n) := by omega
    by_cases h1 : l.length = 0
    · have HD : Hid (dropN l n = 0) := hid (by unfold dropN; omega)
      have h2 : (l.length : Int) < 1 := by omega
      go_enter Try.func20, Try.ntmps20
      go_wp2_with fail
      refine (len _ g b N f l.length HR.out).mono ?_
      rintro x w2 ⟨rfl, rfl⟩
      go_wp2
      go_ret
      have := HZero.out HD.out
      rw [← show (l.length : Int) = 0 from by omega] at this
      first | exact this | exact HZero.out HD.out
    · have h2 : ¬ (l.length : Int) < 1 := by omega
      rw [show dropN l n = l.length from by unfold dropN; omega]
      clear HZero
      go_enter Try.func20, Try.ntmps20
      go_wp2_with fail
      refine (len _ g b N f l.length HR.out).mono ?_
      rintro x w2 ⟨rfl, rfl⟩
      go_wp2_with fail
      refine (place _ g b N f l.length (l.length) HR.out hN hf (by omega)).mono ?_
      rintro x w3 ⟨rfl, q, rfl⟩
      have HB : Hid (Only [g] w (w.drewN q)) := hid ((Only.refl _ w).drewN q)
      have HR := hid (HR.out.drewN q)
      have c1 : (w.drewN q).cell? ⟨g, 1, none⟩ = some (.int .i64 f) := HR.out.cell 1
      have f1 := HR.out.frozen 1
      have c2 : (w.drewN q).cell? ⟨g, 2, none⟩ = some (.int .i64 (l.length : Nat)) := HR.out.cell 2
      have f2 := HR.out.frozen 2
      generalize w.drewN q = w1 at *
      have hlen : (l.length : Int) - (l.length : Nat) = ((l.length - l.length : Nat) : Int) := by omega
      go_wp2
      go_ret
      refine ⟨rfl, (f + l.length) % N, HRel.out.drop (l.length) (by omega), ?_, (HB.out.setCell (p := ⟨g, 1, none⟩) (.inl (by simp)) _).setCell (p := ⟨g, 2, none⟩) (.inl (by simp)) _⟩
      have := (HR.out.set 1 (.int .i64 ((f + l.length) % N : Nat))).set 2 (.int .i64 ((l.length : Int) - (l.length : Nat)))
      rw [hlen] at this
      simpa [RObj, List.length_drop] using this
/-- What New makes: a Ring of nothing, or an error. -/
theorem new (w : World) (N : Nat) (hN : 1 ≤ N ∧ N ≤ 1048560) : Calls Try.prog 10 #[.int .i64 (N : Int)] w fun x w' => x = .returned (.tuple #[.pointer (some ⟨w.heap.size + 1, 0, none⟩), .int .i64 0]) ∧ RObj w' (w.heap.size + 1) w.heap.size N 0 0 ∧ Ob w' w.heap.size 5 (rowV .u8 (List.replicate N 0)) ∧ Only [] w w' := by
  have hmk := run_mkB w N (by omega)
  have HO : Hid (Ob (w.alloc (.cells (rowV .u8 (List.replicate N 0)) 5)) w.heap.size 5 (rowV .u8 (List.replicate N 0))) := hid (Ob.new _ _ _)
  have HB : Hid (Only [] w (w.alloc (.cells (rowV .u8 (List.replicate N 0)) 5))) := hid ((Only.refl [] w).alloc _)
  have HS : Hid ((w.alloc (.cells (rowV .u8 (List.replicate N 0)) 5)).heap.size = w.heap.size + 1) := hid (by simp)
  go_enter Try.func10, Try.ntmps10
  go_wp2
  go_ret2
  refine ⟨by simp, ?_, HO.out.alloc _, HB.out.alloc _⟩
  have := Ob.new (w.alloc (.cells (rowV .u8 (List.replicate N 0)) 5)) 66 #[.slice (some ⟨w.heap.size, 0, none⟩) N N, .int .i64 0, .int .i64 0]
  rw [HS.out] at this
  simpa [RObj] using this
theorem new_bad (w : World) (n : Int) (hn : n < 1 ∨ 1048560 < n) : Calls Try.prog 10 #[.int .i64 n] w fun x w' => x = .returned (.tuple #[.pointer none, .int .i64 1]) ∧ w' = w := by
  by_cases h : n < 1
  · go_enter Try.func10, Try.ntmps10
    go_wp2
    go_ret2
    exact ⟨rfl, rfl⟩
  · have h2 : n > 1048560 := by omega
    go_enter Try.func10, Try.ntmps10
    go_wp2
    go_ret2
    exact ⟨rfl, rfl⟩
end Go.Proofs.Ytbjmckmajpdglaa.rng
