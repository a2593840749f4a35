/-
  Chapter 14 (segment): what a segment is written as, the law, by a walk of its text. Conditions: none but those typed.
-/
import Derived.Test.YtkpdgfimibmoeaaSegQ
import Derived.Test.YtkpdgfimibmoeaaSegR
import Derived.Test.YtkpdgfimibmoeaaSegF
import Derived.Test.YtkpdgfimibmoeaaHlp14
namespace Go.Proofs.Ytkpdgfimibmoeaa.seg
set_option linter.unusedVariables false
set_option linter.unusedSimpArgs false
open Go.ChangeShapes Go.WideShapes Go.ChangeAt Go.RowKit Go.IntWalk Go.Lib
/-- What both Encodes say. -/
def Says (fr to sq ac fp tp fl wi ms sc : Int) (l : List Int) (n : Nat) (er : Int) (ls : List Int) : Prop :=
  (chk fp tp fl wi ms sc n = 0 ∧ er = 0 ∧ ls = encB fr to sq ac fp tp fl wi ms sc l) ∨ (chk fp tp fl wi ms sc n ≠ 0 ∧ er = chk fp tp fl wi ms sc n ∧ ls = [])
theorem says_any (fr to sq ac fp tp fl wi ms sc : Int) (l : List Int) (n : Nat) : ∃ er ls, Says fr to sq ac fp tp fl wi ms sc l n er ls := by
  by_cases h : chk fp tp fl wi ms sc n = 0
  · exact ⟨_, _, .inl ⟨h, rfl, rfl⟩⟩
  · exact ⟨_, _, .inr ⟨h, rfl, rfl⟩⟩
theorem says_len {fr to sq ac fp tp fl wi ms sc : Int} {l : List Int} {n : Nat} {er : Int} {ls : List Int} (hl : l.length = n) (hn : n ≤ 70000) (h : Says fr to sq ac fp tp fl wi ms sc l n er ls) : ls.length ≤ 80000 := by
  rcases h with ⟨h, _, rfl⟩ | ⟨h, _, rfl⟩
  · rw [encB_len, hl]; have := opt_len ms sc; omega
  · simp
theorem encAny (w : World) (fr to sq ac : Int) (fp tp fl wi ms sc : Int) (A : Option Addr) (n c : Nat) (l : List Int) (er : Int) (ls : List Int) (hl : Rd .u8 w A n l) (hc0 : A = none → c = 0) (hn : n ≤ 70000) (h : Says fr to sq ac fp tp fl wi ms sc l n er ls) :
    Calls Try.prog 11 #[.agg #[.int .u32 fr, .int .i64 fp, .int .u32 to, .int .i64 tp, .int .u32 sq, .int .u32 ac, .int .i64 fl, .int .i64 wi, .int .i64 ms, .int .i64 sc, .slice A n c]] w fun x w' => ∃ v, x = .returned (.tuple #[v, .int .i64 er]) ∧ Own .u8 5 w' w.heap.size v ls ∧ Only [] w w' := by
  rcases h with ⟨h, rfl, rfl⟩ | ⟨h, rfl, rfl⟩
  · exact enc1 w fr to sq ac fp tp fl wi ms sc A n c l hl hc0 hn h
  · refine (encE w fr to sq ac fp tp fl wi ms sc A n c h).mono ?_
    rintro x w' ⟨rfl, o⟩
    exact ⟨_, rfl, Own.nil _ _ _ _, o⟩
theorem rencAny (w : World) (fr to sq ac : Int) (fp tp fl wi ms sc : Int) (A : Option Addr) (n c : Nat) (l : List Int) (er : Int) (ls : List Int) (hl : Rd .u8 w A n l) (hc0 : A = none → c = 0) (hn : n ≤ 70000) (h : Says fr to sq ac fp tp fl wi ms sc l n er ls) :
    Calls Try.prog 12 #[.agg #[.int .u32 fr, .int .i64 fp, .int .u32 to, .int .i64 tp, .int .u32 sq, .int .u32 ac, .int .i64 fl, .int .i64 wi, .int .i64 ms, .int .i64 sc, .slice A n c]] w fun x w' => ∃ v, x = .returned (.tuple #[v, .int .i64 er]) ∧ Own .u8 5 w' w.heap.size v ls ∧ Only [] w w' := by
  have o0 : (opt 0 (-1)).length = 0 := by decide
  have o1 : ∀ sc, sc ≠ -1 → (opt 0 sc).length = 4 := fun sc h => by unfold opt; simp [h]
  have o2 : ∀ ms, ms ≠ 0 → (opt ms (-1)).length = 4 := fun ms h => by unfold opt; simp [h]
  have o3 : ∀ ms sc, ms ≠ 0 → sc ≠ -1 → (opt ms sc).length = 8 := fun ms sc h h' => by unfold opt; simp [h, h']
  rcases h with ⟨h, rfl, rfl⟩ | ⟨h, rfl, rfl⟩
  · obtain ⟨hg, hk⟩ := chk_good h
    by_cases hm : ms = 0
    · subst hm
      by_cases hs : sc = -1
      · subst hs
        exact renc w fr to sq ac fp tp fl wi A n c l hl hc0 hg (by rw [o0] at hk; exact hk)
      · exact rencS w fr to sq ac fp tp fl wi sc A n c l hl hc0 hg hs (by rw [o1 sc hs] at hk; exact hk)
    · by_cases hs : sc = -1
      · subst hs
        exact rencM w fr to sq ac fp tp fl wi ms A n c l hl hc0 hg hm (by rw [o2 ms hm] at hk; exact hk)
      · exact rencMS w fr to sq ac fp tp fl wi ms sc A n c l hl hc0 hg hm hs (by rw [o3 ms sc hm hs] at hk; exact hk)
  · by_cases hg : Good fp tp fl wi ms sc
    · have hk : 65495 < n + (opt ms sc).length := by
        unfold chk at h; rw [if_pos hg] at h
        by_cases h2 : 65495 < n + (opt ms sc).length
        · exact h2
        · rw [if_neg h2] at h; exact absurd rfl h
      have he : chk fp tp fl wi ms sc n = 5 := by unfold chk; rw [if_pos hg, if_pos hk]
      rw [he]
      have fin : ∀ {x : Ending} {w' : World}, (x = .returned (.tuple #[.slice none 0 0, .int .i64 5]) ∧ Only [] w w') → ∃ v, x = .returned (.tuple #[v, .int .i64 5]) ∧ Own .u8 5 w' w.heap.size v [] ∧ Only [] w w' := fun ⟨e, o⟩ => ⟨_, e, Own.nil _ _ _ _, o⟩
      by_cases hm : ms = 0
      · subst hm
        by_cases hs : sc = -1
        · subst hs
          exact (rencL w fr to sq ac fp tp fl wi A n c hg (by rw [o0] at hk; exact hk) hn).mono fun _ _ => fin
        · exact (rencSL w fr to sq ac fp tp fl wi sc A n c hg hs (by rw [o1 sc hs] at hk; exact hk) hn).mono fun _ _ => fin
      · by_cases hs : sc = -1
        · subst hs
          exact (rencML w fr to sq ac fp tp fl wi ms A n c hg hm (by rw [o2 ms hm] at hk; exact hk) hn).mono fun _ _ => fin
        · exact (rencMSL w fr to sq ac fp tp fl wi ms sc A n c hg hm hs (by rw [o3 ms sc hm hs] at hk; exact hk) hn).mono fun _ _ => fin
    · have he : chk fp tp fl wi ms sc n = 1 := by unfold chk; rw [if_neg hg]
      rw [he]
      refine (rbad w fr to sq ac fp tp fl wi ms sc A n c hg).mono ?_
      rintro x w' ⟨rfl, o⟩
      exact ⟨_, rfl, Own.nil _ _ _ _, o⟩
set_option maxHeartbeats 8000000 in
theorem encodesIn (w : World) (fr to sq ac : Int) (fp tp fl wi ms sc : Int) (A : Option Addr) (n c : Nat) (l : List Int) (hl : Rd .u8 w A n l) (hc0 : A = none → c = 0) (hn : n ≤ 70000) :
    Calls Try.prog 3 #[.agg #[.int .u32 fr, .int .i64 fp, .int .u32 to, .int .i64 tp, .int .u32 sq, .int .u32 ac, .int .i64 fl, .int .i64 wi, .int .i64 ms, .int .i64 sc, .slice A n c]] w fun x w' => x = .returned (.bool true) ∧ Only [] w w' := by
  have OB : Hid (Ob (w.alloc (.cells #[.int .u32 fr, .int .i64 fp, .int .u32 to, .int .i64 tp, .int .u32 sq, .int .u32 ac, .int .i64 fl, .int .i64 wi, .int .i64 ms, .int .i64 sc, .slice A n c] 26)) w.heap.size 26 #[.int .u32 fr, .int .i64 fp, .int .u32 to, .int .i64 tp, .int .u32 sq, .int .u32 ac, .int .i64 fl, .int .i64 wi, .int .i64 ms, .int .i64 sc, .slice A n c]) := hid (Ob.new _ _ _)
  have QB : Hid (Only [] w (w.alloc (.cells #[.int .u32 fr, .int .i64 fp, .int .u32 to, .int .i64 tp, .int .u32 sq, .int .u32 ac, .int .i64 fl, .int .i64 wi, .int .i64 ms, .int .i64 sc, .slice A n c] 26))) := hid ((Only.refl [] w).alloc _)
  obtain ⟨er, ls, hE⟩ := says_any fr to sq ac fp tp fl wi ms sc l n
  have HLS := hid (says_len hl.len hn hE)
  have HE := hid hE; clear hE
  have HLen := hid hl.len
  have HL := hid hl; clear hl
  have HC := hid hc0; clear hc0
  go_enter Try.func3, Try.ntmps3
  go_wp2_with fail
  refine (hlp.roomy _ A n c l (HL.out.only_nil QB.out) HC.out (by omega)).mono ?_
  rintro x w1 ⟨g, cap, rfl, hv, o1⟩
  have hcap := hv.len
  obtain ⟨_, hcap1, hcap2⟩ := hcap
  have hgl : w.heap.size + 1 ≤ g := by simpa using hv.base_le.1
  have V1 := hid hv; have OB := hid (OB.out.only o1 (by simp)); have QB := hid (QB.out.trans o1); clear hv o1
  have k0 := OB.out.cell 0; have k1 := OB.out.cell 1; have k2 := OB.out.cell 2; have k3 := OB.out.cell 3; have k4 := OB.out.cell 4; have k5 := OB.out.cell 5; have k6 := OB.out.cell 6; have k7 := OB.out.cell 7; have k8 := OB.out.cell 8; have k9 := OB.out.cell 9; have k10 := OB.out.cell 10
  have hlt := OB.out.lt
  have hmn : (n : Int) ≤ (n : Int) + 1 := by omega
  go_wp2_with fail
  have PR : Hid (Rd .u8 (w1.alloc (.cells #[.int .u32 fr, .int .i64 fp, .int .u32 to, .int .i64 tp, .int .u32 sq, .int .u32 ac, .int .i64 fl, .int .i64 wi, .int .i64 ms, .int .i64 sc, .slice (some ⟨g, 0, none⟩) n cap] 26)) (some ⟨g, 0, none⟩) n l) := hid (by
    have h := (V1.out.pre (m := n) (by omega)).rd.alloc (.cells #[.int .u32 fr, .int .i64 fp, .int .u32 to, .int .i64 tp, .int .u32 sq, .int .u32 ac, .int .i64 fl, .int .i64 wi, .int .i64 ms, .int .i64 sc, .slice (some ⟨g, 0, none⟩) n cap] 26)
    rwa [List.take_left' HLen.out] at h)
  clear k0 k1 k2 k3 k4 k5 k6 k7 k8 k9 k10
  refine (encAny _ fr to sq ac fp tp fl wi ms sc (some ⟨g, 0, none⟩) n cap l er ls PR.out (by simp) hn HE.out).mono ?_
  rintro x w2 ⟨v2, rfl, hb, o2⟩
  have o2' : Only [] w1 w2 := ((Only.refl [] w1).alloc _).trans o2
  obtain ⟨A2, cap2, ev2, _, _, r2, _⟩ := hb.slice
  have R2 := hid r2; have V1 := hid (V1.out.only_nil o2'); have OB := hid (OB.out.only o2' (by simp)); have QB := hid (QB.out.trans o2'); clear hb o2 o2' r2 PR
  subst ev2
  have k0 := OB.out.cell 0; have k1 := OB.out.cell 1; have k2 := OB.out.cell 2; have k3 := OB.out.cell 3; have k4 := OB.out.cell 4; have k5 := OB.out.cell 5; have k6 := OB.out.cell 6; have k7 := OB.out.cell 7; have k8 := OB.out.cell 8; have k9 := OB.out.cell 9; have k10 := OB.out.cell 10
  go_wp2_with fail
  clear k0 k1 k2 k3 k4 k5 k6 k7 k8 k9 k10
  refine (rencAny _ fr to sq ac fp tp fl wi ms sc A n c l er ls (HL.out.only_nil QB.out) HC.out hn HE.out).mono ?_
  rintro x w3 ⟨v3, rfl, hb, o3⟩
  obtain ⟨A3, cap3, ev3, _, _, r3, _⟩ := hb.slice
  have R3 := hid r3; have R2 := hid (R2.out.only_nil o3); have V1 := hid (V1.out.only_nil o3); have OB := hid (OB.out.only o3 (by simp)); have QB := hid (QB.out.trans o3); clear hb o3 r3
  subst ev3
  go_wp2_with fail
  refine (callsOnly (hlp.same _ A2 A3 _ _ cap2 cap3 ls ls R2.out R3.out (by have := HLS.out; omega) (by have := HLS.out; omega))).mono ?_
  rintro x w4 ⟨rfl, o4⟩
  rw [show decide (ls = ls) = true from by simp]
  have V1 := hid (V1.out.only_nil o4); have OB := hid (OB.out.only o4 (by simp)); have QB := hid (QB.out.trans o4); clear o4 R2 R3
  have k10 := OB.out.cell 10
  go_wp2_with fail
  refine (callsOnly (hlp.stands _ (some ⟨g, 0, none⟩) A n cap c l V1.out.rd hcap1 (HL.out.only_nil QB.out) (by omega))).mono ?_
  rintro x w5 ⟨rfl, o5⟩
  have QB := hid (QB.out.trans o5); clear o5 k10
  go_wp2_with fail
  refine (known _).mono ?_
  rintro x w6 ⟨rfl, o6⟩
  have QB := hid (QB.out.trans o6); clear o6
  go_wp2
  go_ret
  exact ⟨rfl, QB.out⟩
set_option maxHeartbeats 4000000 in
theorem encodesOut (w : World) (fr to sq ac : Int) (fp tp fl wi ms sc : Int) (A : Option Addr) (n c : Nat) (hn : ¬ n ≤ 70000) :
    Calls Try.prog 3 #[.agg #[.int .u32 fr, .int .i64 fp, .int .u32 to, .int .i64 tp, .int .u32 sq, .int .u32 ac, .int .i64 fl, .int .i64 wi, .int .i64 ms, .int .i64 sc, .slice A n c]] w fun x w' => x = .returned (.bool true) ∧ Only [] w w' := by
  have h : 70000 < n := by omega
  go_enter Try.func3, Try.ntmps3
  go_wp2
  go_ret
  exact ⟨rfl, (Only.refl [] w).alloc _⟩
set_option maxHeartbeats 4000000 in
theorem encodes (w : World) (fr to sq ac : Int) (fp tp fl wi ms sc : Int) (A : Option Addr) (n c : Nat) (l : List Int) (hl : Rd .u8 w A n l) (hc0 : A = none → c = 0) :
    Calls Try.prog 3 #[.agg #[.int .u32 fr, .int .i64 fp, .int .u32 to, .int .i64 tp, .int .u32 sq, .int .u32 ac, .int .i64 fl, .int .i64 wi, .int .i64 ms, .int .i64 sc, .slice A n c]] w fun x w' => x = .returned (.bool true) ∧ Only [] w w' := by
  by_cases hn : n ≤ 70000
  · exact encodesIn w fr to sq ac fp tp fl wi ms sc A n c l hl hc0 hn
  · exact encodesOut w fr to sq ac fp tp fl wi ms sc A n c hn
end Go.Proofs.Ytkpdgfimibmoeaa.seg
