/-
  Chapter 11 (udp): what a datagram is written as, the law out of what known says. Conditions: none but those typed.
-/
import Derived.Test.YtnhakcgkhhficaaUdpD
namespace Go.Proofs.Ytnhakcgkhhficaa.udp
set_option linter.unusedVariables false
set_option linter.unusedSimpArgs false
open Go.ChangeShapes Go.WideShapes Go.ChangeAt Go.RowKit Go.IntWalk Go.Lib
theorem says_len {fr fp to tp : Int} {l : List Int} {n : Nat} {er : Int} {ls : List Int} (hl : l.length = n) (h : Says fr fp to tp l n er ls) : ls.length ≤ 70000 := by
  cases h with
  | bad h => simp
  | long hg h => simp
  | ok hg h => unfold encU; rw [body_len, hl]; omega
set_option maxHeartbeats 8000000 in
theorem encodesIn (hkn : ∀ w : World, Calls Try.prog 18 #[] w fun x w' => x = .returned (.bool true) ∧ Only [] w w') (w : World) (fr fp to tp : Int) (A : Option Addr) (n c : Nat) (l : List Int) (hl : Rd .u8 w A n l) (hc0 : A = none → c = 0) (hn : n ≤ 70000) :
    Calls Try.prog 4 #[.agg #[.int .u32 fr, .int .i64 fp, .int .u32 to, .int .i64 tp, .slice A n c]] w fun x w' => x = .returned (.bool true) ∧ Only [] w w' := by
  have HKN := hid hkn; clear hkn
  have OB : Hid (Ob (w.alloc (.cells #[.int .u32 fr, .int .i64 fp, .int .u32 to, .int .i64 tp, .slice A n c] 32)) w.heap.size 32 #[.int .u32 fr, .int .i64 fp, .int .u32 to, .int .i64 tp, .slice A n c]) := hid (Ob.new _ _ _)
  have QB : Hid (Only [] w (w.alloc (.cells #[.int .u32 fr, .int .i64 fp, .int .u32 to, .int .i64 tp, .slice A n c] 32))) := hid ((Only.refl [] w).alloc _)
  obtain ⟨er, ls, hE⟩ := says_any fr fp to tp l n
  have HLS := hid (says_len hl.len hE)
  have HE := hid hE; clear hE
  have HLen := hid hl.len
  have HL := hid hl; clear hl
  have HC := hid hc0; clear hc0
  go_enter Try.func4, Try.ntmps4
  go_wp2_with fail
  refine (hlp.roomy _ A n c l (HL.out.only_nil QB.out) HC.out (by omega)).mono ?_
  rintro x w1 ⟨g, cap, rfl, hv, o1⟩
  have hcap := hv.len
  obtain ⟨_, hcap1, hcap2⟩ := hcap
  have hgl : w.heap.size + 1 ≤ g := by simpa using hv.base_le.1
  have V1 := hid hv; have OB := hid (OB.out.only o1 (by simp)); have QB := hid (QB.out.trans o1); clear hv o1
  have k0 := OB.out.cell 0; have k1 := OB.out.cell 1; have k2 := OB.out.cell 2; have k3 := OB.out.cell 3; have k4 := OB.out.cell 4
  have hlt := OB.out.lt
  have hmn : (n : Int) ≤ (n : Int) + 1 := by omega
  go_wp2_with fail
  have PR : Hid (Rd .u8 (w1.alloc (.cells #[.int .u32 fr, .int .i64 fp, .int .u32 to, .int .i64 tp, .slice (some ⟨g, 0, none⟩) n cap] 32)) (some ⟨g, 0, none⟩) n l) := hid (by
    have h := (V1.out.pre (m := n) (by omega)).rd.alloc (.cells #[.int .u32 fr, .int .i64 fp, .int .u32 to, .int .i64 tp, .slice (some ⟨g, 0, none⟩) n cap] 32)
    rwa [List.take_left' HLen.out] at h)
  clear k0 k1 k2 k3 k4
  refine (encAny _ fr fp to tp (some ⟨g, 0, none⟩) n cap l er ls PR.out (by simp) HE.out).mono ?_
  rintro x w2 ⟨v2, rfl, hb, o2⟩
  have o2' : Only [] w1 w2 := ((Only.refl [] w1).alloc _).trans o2
  obtain ⟨A2, cap2, ev2, _, _, r2, _⟩ := hb.slice
  have R2 := hid r2; have V1 := hid (V1.out.only_nil o2'); have OB := hid (OB.out.only o2' (by simp)); have QB := hid (QB.out.trans o2'); clear hb o2 o2' r2 PR
  subst ev2
  have k0 := OB.out.cell 0; have k1 := OB.out.cell 1; have k2 := OB.out.cell 2; have k3 := OB.out.cell 3; have k4 := OB.out.cell 4
  go_wp2_with fail
  clear k0 k1 k2 k3 k4
  refine (rencAny _ fr fp to tp A n c l er ls (HL.out.only_nil QB.out) HC.out HE.out).mono ?_
  rintro x w3 ⟨v3, rfl, hb, o3⟩
  obtain ⟨A3, cap3, ev3, _, _, r3, _⟩ := hb.slice
  have R3 := hid r3; have R2 := hid (R2.out.only_nil o3); have V1 := hid (V1.out.only_nil o3); have OB := hid (OB.out.only o3 (by simp)); have QB := hid (QB.out.trans o3); clear hb o3 r3
  subst ev3
  go_wp2_with fail
  refine (callsOnly (hlp.same _ A2 A3 _ _ cap2 cap3 ls ls R2.out R3.out (by have := HLS.out; omega) (by have := HLS.out; omega))).mono ?_
  rintro x w4 ⟨rfl, o4⟩
  rw [show decide (ls = ls) = true from by simp]
  have V1 := hid (V1.out.only_nil o4); have OB := hid (OB.out.only o4 (by simp)); have QB := hid (QB.out.trans o4); clear o4 R2 R3
  have k4 := OB.out.cell 4
  go_wp2_with fail
  refine (callsOnly (hlp.stands _ (some ⟨g, 0, none⟩) A n cap c l V1.out.rd hcap1 (HL.out.only_nil QB.out) (by omega))).mono ?_
  rintro x w5 ⟨rfl, o5⟩
  have QB := hid (QB.out.trans o5); clear o5 k4
  go_wp2_with fail
  refine (HKN.out _).mono ?_
  rintro x w6 ⟨rfl, o6⟩
  have QB := hid (QB.out.trans o6); clear o6
  go_wp2
  go_ret
  exact ⟨rfl, QB.out⟩
theorem encodesOut (w : World) (fr fp to tp : Int) (A : Option Addr) (n c : Nat) (hn : ¬ n ≤ 70000) :
    Calls Try.prog 4 #[.agg #[.int .u32 fr, .int .i64 fp, .int .u32 to, .int .i64 tp, .slice A n c]] w fun x w' => x = .returned (.bool true) ∧ Only [] w w' := by
  have h : 70000 < n := by omega
  go_enter Try.func4, Try.ntmps4
  go_wp2
  go_ret
  exact ⟨rfl, (Only.refl [] w).alloc _⟩
theorem encodes (hkn : ∀ w : World, Calls Try.prog 18 #[] w fun x w' => x = .returned (.bool true) ∧ Only [] w w') (w : World) (fr fp to tp : Int) (A : Option Addr) (n c : Nat) (l : List Int) (hl : Rd .u8 w A n l) (hc0 : A = none → c = 0) :
    Calls Try.prog 4 #[.agg #[.int .u32 fr, .int .i64 fp, .int .u32 to, .int .i64 tp, .slice A n c]] w fun x w' => x = .returned (.bool true) ∧ Only [] w w' := by
  by_cases hn : n ≤ 70000
  · exact encodesIn hkn w fr fp to tp A n c l hl hc0 hn
  · exact encodesOut w fr fp to tp A n c hn
end Go.Proofs.Ytnhakcgkhhficaa.udp
