/-
  Chapter 18 (hub): the law on a nil hub, by a walk of its text. Conditions: none but those typed.
-/
import Derived.Test.YtiiajkfaikeenaaGreatHubN
import Derived.Test.YtiiajkfaikeenaaGreatHubH
import Derived.Test.YtiiajkfaikeenaaGreatEvP18
import Derived.Test.YtiiajkfaikeenaaGreatStc
namespace Go.Proofs.YtiiajkfaikeenaaGreat.hub
set_option linter.unusedVariables false
set_option linter.unusedSimpArgs false
open Go.ChangeShapes Go.WideShapes Go.ChangeAt Go.RowKit Go.IntWalk Go.Lib
/-- A row laid cell by cell over another of its size. -/
theorem laid (C Z : Array Value) (k : Nat) (h1 : C.size = Z.size) (h2 : k = C.size) : Array.foldl (fun cs (x : Value × Nat) => cs.setIfInBounds x.snd x.fst) Z C.zipIdx 0 k = C := by
  have h := foldl_set C.toList [] Z.toList (by simpa using h1)
  simp only [List.length_nil, Nat.zero_add, List.nil_append, Array.toArray_toList] at h
  subst h2
  have e : C.size = C.zipIdx.size := by simp
  rw [e, ← Array.foldl_toList, Array.toList_zipIdx]
  exact h
set_option maxRecDepth 100000 in
set_option maxHeartbeats 4000000 in
theorem ofNothing (w : World) (s0 s1 s2 s3 s4 s5 : Int) (A6 : Option Addr) (n6 k6 : Nat) (c0 c1 c2 c3 c4 c5 c6 c7 c8 c10 : Int) (c9 : Bool) (fr to sq ac fp tp fl wi ms sc : Int) (A : Option Addr) (n c : Nat) (C : Array Value) (HC : Hid (C = #[.int .i64 s0, .int .i64 s1, .int .i64 s2, .int .i64 s3, .int .i64 s4, .int .u32 s5, .slice A6 n6 k6, .int .u32 c0, .int .i64 c1, .int .u32 c2, .int .i64 c3, .int .u32 c4, .int .i64 c5, .int .i64 c6, .int .i64 c7, .int .i64 c8, .bool c9, .int .i64 c10, .int .u32 fr, .int .i64 fp, .int .u32 to, .int .i64 tp, .int .u32 sq, .int .u32 ac, .int .i64 fl, .int .i64 wi, .int .i64 ms, .int .i64 sc, .slice A n c])) (t : Int) (l : List Int) (hl : Rd .u8 w A n l) (hc0 : A = none → c = 0) (h6 : n6 ≤ 140737488351232) (hn : n ≤ 140737488351232) (hc6 : -9223372036854775808 ≤ c6 ∧ c6 ≤ 9223372036854775807) (hc7 : -9223372036854775808 ≤ c7 ∧ c7 ≤ 9223372036854775807) : Calls Tryz.prog 3 #[.agg C, .int .i64 t] w fun x w' => x = .returned (.bool true) ∧ Only [] w w' := by
  have HL := hid hl; have HA := hid hc0
  have hv : Hid (∀ W, Ob W (w.heap.size + 1) 30 C → Calls Tryz.prog 4 #[.slice (some ⟨w.heap.size + 1, 0, none⟩) 1 1] W (HEnd n W)) := hid (fun W h => by
    rw [HC.out] at h
    exact heavy W _ _ s0 s1 s2 s3 s4 s5 A6 n6 k6 c0 c1 c2 c3 c4 c5 c6 c7 c8 c10 c9 fr to sq ac fp tp fl wi ms sc A n c h h6 hn hc6 hc7)
  clear hl hc0 h6 hn hc6 hc7
  have hz : C.size = 29 := by rw [HC.out]; rfl
  have OB : Hid (Ob (w.alloc (.cells C 30)) w.heap.size 30 C) := hid (Ob.new _ _ _)
  go_enter Tryz.func3, Tryz.ntmps3
  go_wp2_with (first | (refine wp_loadOb rfl 30 (.tmp 2) rfl w.heap.size rfl C 30 OB.out Tryz.underlying30 rfl (by rw [hz]; kernel_rfl) ?_; try simp only [Act.put, List.setIfInBounds_toArray, List.set_cons_zero, List.set_cons_succ]) | fail)
  rw [laid C _ _ (by rw [hz]; rfl) (by first | rfl | rw [hz])]
  refine (hv.out _ (by simpa using Ob.new (w.alloc (.cells C 30)) 30 C)).mono ?_
  rintro x w1 ⟨tt, rfl, hh, o1⟩
  have OB1 : Hid (Ob w1 w.heap.size 30 C) := hid (((OB.out.alloc _).only o1 (by simp)))
  have O1 : Hid (Only [] w w1) := hid ((((Only.refl [] w).alloc _).alloc _).trans o1)
  clear o1
  cases tt with
  | true =>
    go_wp2
    go_ret
    exact ⟨rfl, O1.out⟩
  | false =>
    have HN := hid (hh rfl); clear hh
    have f5_w1 : w1.cell? ⟨w.heap.size, 5, none⟩ = some (.int .u32 s5) := by rw [OB1.out.cell]; rw [HC.out]; rfl
    have f2_w1 : w1.cell? ⟨w.heap.size, 2, none⟩ = some (.int .i64 s2) := by rw [OB1.out.cell]; rw [HC.out]; rfl
    have f3_w1 : w1.cell? ⟨w.heap.size, 3, none⟩ = some (.int .i64 s3) := by rw [OB1.out.cell]; rw [HC.out]; rfl
    go_wp2_with fail
    refine (nilListen w1 _ _ _).mono ?_
    rintro x w2 ⟨rfl, o2⟩
    have OB2 : Hid (Ob w2 w.heap.size 30 C) := hid (OB1.out.only o2 (by simp))
    have O2 : Hid (Only [] w w2) := hid (O1.out.trans o2)
    clear o2
    have f1_w2 : w2.cell? ⟨w.heap.size, 1, none⟩ = some (.int .i64 s1) := by rw [OB2.out.cell]; rw [HC.out]; rfl
    go_wp2_with fail
    refine (nilDeaf w2 _).mono ?_
    rintro x w3 ⟨rfl, o3⟩
    have OB3 : Hid (Ob w3 w.heap.size 30 C) := hid (OB2.out.only o3 (by simp))
    have O3 : Hid (Only [] w w3) := hid (O2.out.trans o3)
    clear o3
    have f7_w3 : w3.cell? ⟨w.heap.size, 7, none⟩ = some (.int .u32 c0) := by rw [OB3.out.cell]; rw [HC.out]; rfl
    have f8_w3 : w3.cell? ⟨w.heap.size, 8, none⟩ = some (.int .i64 c1) := by rw [OB3.out.cell]; rw [HC.out]; rfl
    have f9_w3 : w3.cell? ⟨w.heap.size, 9, none⟩ = some (.int .u32 c2) := by rw [OB3.out.cell]; rw [HC.out]; rfl
    have f10_w3 : w3.cell? ⟨w.heap.size, 10, none⟩ = some (.int .i64 c3) := by rw [OB3.out.cell]; rw [HC.out]; rfl
    have f11_w3 : w3.cell? ⟨w.heap.size, 11, none⟩ = some (.int .u32 c4) := by rw [OB3.out.cell]; rw [HC.out]; rfl
    have f12_w3 : w3.cell? ⟨w.heap.size, 12, none⟩ = some (.int .i64 c5) := by rw [OB3.out.cell]; rw [HC.out]; rfl
    have f13_w3 : w3.cell? ⟨w.heap.size, 13, none⟩ = some (.int .i64 c6) := by rw [OB3.out.cell]; rw [HC.out]; rfl
    have f14_w3 : w3.cell? ⟨w.heap.size, 14, none⟩ = some (.int .i64 c7) := by rw [OB3.out.cell]; rw [HC.out]; rfl
    have f15_w3 : w3.cell? ⟨w.heap.size, 15, none⟩ = some (.int .i64 c8) := by rw [OB3.out.cell]; rw [HC.out]; rfl
    have f16_w3 : w3.cell? ⟨w.heap.size, 16, none⟩ = some (.bool c9) := by rw [OB3.out.cell]; rw [HC.out]; rfl
    have f17_w3 : w3.cell? ⟨w.heap.size, 17, none⟩ = some (.int .i64 c10) := by rw [OB3.out.cell]; rw [HC.out]; rfl
    go_wp2_with fail
    refine (nilOpen w3 _ _ _ _ _ _ _ _ _ _ _ _).mono ?_
    rintro x w4 ⟨rfl, o4⟩
    have OB4 : Hid (Ob w4 w.heap.size 30 C) := hid (OB3.out.only o4 (by simp))
    have O4 : Hid (Only [] w w4) := hid (O3.out.trans o4)
    clear o4
    have f1_w4 : w4.cell? ⟨w.heap.size, 1, none⟩ = some (.int .i64 s1) := by rw [OB4.out.cell]; rw [HC.out]; rfl
    go_wp2_with fail
    refine (nilAccept w4 _).mono ?_
    rintro x w5 ⟨rfl, o5⟩
    have OB5 : Hid (Ob w5 w.heap.size 30 C) := hid (OB4.out.only o5 (by simp))
    have O5 : Hid (Only [] w w5) := hid (O4.out.trans o5)
    clear o5
    have f1_w5 : w5.cell? ⟨w.heap.size, 1, none⟩ = some (.int .i64 s1) := by rw [OB5.out.cell]; rw [HC.out]; rfl
    have f6_w5 : w5.cell? ⟨w.heap.size, 6, none⟩ = some (.slice A6 n6 k6) := by rw [OB5.out.cell]; rw [HC.out]; rfl
    go_wp2_with fail
    refine (nilSend w5 _ _ _ _ _).mono ?_
    rintro x w6 ⟨rfl, o6⟩
    have OB6 : Hid (Ob w6 w.heap.size 30 C) := hid (OB5.out.only o6 (by simp))
    have O6 : Hid (Only [] w w6) := hid (O5.out.trans o6)
    clear o6
    have f1_w6 : w6.cell? ⟨w.heap.size, 1, none⟩ = some (.int .i64 s1) := by rw [OB6.out.cell]; rw [HC.out]; rfl
    have f3_w6 : w6.cell? ⟨w.heap.size, 3, none⟩ = some (.int .i64 s3) := by rw [OB6.out.cell]; rw [HC.out]; rfl
    go_wp2_with fail
    refine (nilRecv w6 _ _ _).mono ?_
    rintro x w7 ⟨rfl, o7⟩
    have OB7 : Hid (Ob w7 w.heap.size 30 C) := hid (OB6.out.only o7 (by simp))
    have O7 : Hid (Only [] w w7) := hid (O6.out.trans o7)
    clear o7
    have f1_w7 : w7.cell? ⟨w.heap.size, 1, none⟩ = some (.int .i64 s1) := by rw [OB7.out.cell]; rw [HC.out]; rfl
    go_wp2_with fail
    refine (nilShut w7 _ _).mono ?_
    rintro x w8 ⟨rfl, o8⟩
    have OB8 : Hid (Ob w8 w.heap.size 30 C) := hid (OB7.out.only o8 (by simp))
    have O8 : Hid (Only [] w w8) := hid (O7.out.trans o8)
    clear o8
    have f1_w8 : w8.cell? ⟨w.heap.size, 1, none⟩ = some (.int .i64 s1) := by rw [OB8.out.cell]; rw [HC.out]; rfl
    go_wp2_with fail
    refine (nilDrop w8 _ _).mono ?_
    rintro x w9 ⟨rfl, o9⟩
    have OB9 : Hid (Ob w9 w.heap.size 30 C) := hid (OB8.out.only o9 (by simp))
    have O9 : Hid (Only [] w w9) := hid (O8.out.trans o9)
    clear o9
    go_wp2_with fail
    refine (nilCount w9).mono ?_
    rintro x w10 ⟨rfl, o10⟩
    have OB10 : Hid (Ob w10 w.heap.size 30 C) := hid (OB9.out.only o10 (by simp))
    have O10 : Hid (Only [] w w10) := hid (O9.out.trans o10)
    clear o10
    have f7_w10 : w10.cell? ⟨w.heap.size, 7, none⟩ = some (.int .u32 c0) := by rw [OB10.out.cell]; rw [HC.out]; rfl
    have f8_w10 : w10.cell? ⟨w.heap.size, 8, none⟩ = some (.int .i64 c1) := by rw [OB10.out.cell]; rw [HC.out]; rfl
    have f9_w10 : w10.cell? ⟨w.heap.size, 9, none⟩ = some (.int .u32 c2) := by rw [OB10.out.cell]; rw [HC.out]; rfl
    have f10_w10 : w10.cell? ⟨w.heap.size, 10, none⟩ = some (.int .i64 c3) := by rw [OB10.out.cell]; rw [HC.out]; rfl
    have f11_w10 : w10.cell? ⟨w.heap.size, 11, none⟩ = some (.int .u32 c4) := by rw [OB10.out.cell]; rw [HC.out]; rfl
    have f12_w10 : w10.cell? ⟨w.heap.size, 12, none⟩ = some (.int .i64 c5) := by rw [OB10.out.cell]; rw [HC.out]; rfl
    have f13_w10 : w10.cell? ⟨w.heap.size, 13, none⟩ = some (.int .i64 c6) := by rw [OB10.out.cell]; rw [HC.out]; rfl
    have f14_w10 : w10.cell? ⟨w.heap.size, 14, none⟩ = some (.int .i64 c7) := by rw [OB10.out.cell]; rw [HC.out]; rfl
    have f15_w10 : w10.cell? ⟨w.heap.size, 15, none⟩ = some (.int .i64 c8) := by rw [OB10.out.cell]; rw [HC.out]; rfl
    have f16_w10 : w10.cell? ⟨w.heap.size, 16, none⟩ = some (.bool c9) := by rw [OB10.out.cell]; rw [HC.out]; rfl
    have f17_w10 : w10.cell? ⟨w.heap.size, 17, none⟩ = some (.int .i64 c10) := by rw [OB10.out.cell]; rw [HC.out]; rfl
    have f18_w10 : w10.cell? ⟨w.heap.size, 18, none⟩ = some (.int .u32 fr) := by rw [OB10.out.cell]; rw [HC.out]; rfl
    have f19_w10 : w10.cell? ⟨w.heap.size, 19, none⟩ = some (.int .i64 fp) := by rw [OB10.out.cell]; rw [HC.out]; rfl
    have f20_w10 : w10.cell? ⟨w.heap.size, 20, none⟩ = some (.int .u32 to) := by rw [OB10.out.cell]; rw [HC.out]; rfl
    have f21_w10 : w10.cell? ⟨w.heap.size, 21, none⟩ = some (.int .i64 tp) := by rw [OB10.out.cell]; rw [HC.out]; rfl
    have f22_w10 : w10.cell? ⟨w.heap.size, 22, none⟩ = some (.int .u32 sq) := by rw [OB10.out.cell]; rw [HC.out]; rfl
    have f23_w10 : w10.cell? ⟨w.heap.size, 23, none⟩ = some (.int .u32 ac) := by rw [OB10.out.cell]; rw [HC.out]; rfl
    have f24_w10 : w10.cell? ⟨w.heap.size, 24, none⟩ = some (.int .i64 fl) := by rw [OB10.out.cell]; rw [HC.out]; rfl
    have f25_w10 : w10.cell? ⟨w.heap.size, 25, none⟩ = some (.int .i64 wi) := by rw [OB10.out.cell]; rw [HC.out]; rfl
    have f26_w10 : w10.cell? ⟨w.heap.size, 26, none⟩ = some (.int .i64 ms) := by rw [OB10.out.cell]; rw [HC.out]; rfl
    have f27_w10 : w10.cell? ⟨w.heap.size, 27, none⟩ = some (.int .i64 sc) := by rw [OB10.out.cell]; rw [HC.out]; rfl
    have f28_w10 : w10.cell? ⟨w.heap.size, 28, none⟩ = some (.slice A n c) := by rw [OB10.out.cell]; rw [HC.out]; rfl
    go_wp2_with fail
    refine (nilArrive w10 fr to sq ac fp tp fl wi ms sc A n c c0 c1 c2 c3 c4 c5 c6 c7 c8 c10 c9 t l (HL.out.only_nil O10.out) HA.out (by have := HN.out; omega)).mono ?_
    rintro x w11 ⟨rfl, o11⟩
    have O11 : Hid (Only [] w w11) := hid (O10.out.trans o11)
    clear o11
    go_wp2_with fail
    refine (nilTick w11 _).mono ?_
    rintro x w12 ⟨rfl, o12⟩
    have O12 : Hid (Only [] w w12) := hid (O11.out.trans o12)
    clear o12
    go_wp2_with fail
    refine (ev.known w12).mono ?_
    rintro x w13 ⟨rfl, o13⟩
    have O13 : Hid (Only [] w w13) := hid (O12.out.trans o13)
    clear o13
    go_wp2
    go_ret
    exact ⟨rfl, O13.out⟩
end Go.Proofs.YtiiajkfaikeenaaGreat.hub
