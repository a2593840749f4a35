/-
  Chapter 9 (icmp): Encode in all its ways, and the law on it, by a walk of each text. Conditions: none but those typed.
-/
import Derived.Test.YtekanilgeigddaaIcmG
import Derived.Test.YtekanilgeigddaaArg
namespace Go.Proofs.Ytekanilgeigddaa.icm
set_option linter.unusedVariables false
set_option linter.unusedSimpArgs false
open Go.ChangeShapes Go.WideShapes Go.ChangeAt Go.RowKit Go.IntWalk Go.Lib
/-- What Encode answers: bytes and an error's number. -/
inductive EncOf (ty co re : Int) (n : Nat) (l : List Int) : List Int → Int → Prop
  | bad (h : ty < 0 ∨ 255 < ty ∨ co < 0 ∨ 255 < co) : EncOf ty co re n l [] 1
  | long (h : 0 ≤ ty ∧ ty ≤ 255 ∧ 0 ≤ co ∧ co ≤ 255) (hn : 65507 < n) : EncOf ty co re n l [] 5
  | ok (h : 0 ≤ ty ∧ ty ≤ 255 ∧ 0 ≤ co ∧ co ≤ 255) (hn : n ≤ 65507) : EncOf ty co re n l (enc ty co re l) 0
theorem encOf_any (ty co re : Int) (n : Nat) (l : List Int) : ∃ ls er, EncOf ty co re n l ls er := by
  by_cases h : 0 ≤ ty ∧ ty ≤ 255 ∧ 0 ≤ co ∧ co ≤ 255
  · by_cases hn : n ≤ 65507
    · exact ⟨_, _, .ok h hn⟩
    · exact ⟨_, _, .long h (by omega)⟩
  · exact ⟨_, _, .bad (by omega)⟩
theorem encOf_len {ty co re : Int} {n : Nat} {l ls : List Int} {er : Int} (hl : l.length = n) (h : EncOf ty co re n l ls er) : ls.length ≤ 65515 := by
  cases h with
  | bad h => simp
  | long h hn => simp
  | ok h hn => rw [enc_len]; omega
theorem F_zero (S : Int) (h : 0 ≤ S) : 65535 - oct.F (S + (65535 - oct.F S)) = 0 := by unfold oct.F; omega
theorem enc_sum (ty co re : Int) (l : List Int) (h : ∀ z ∈ l, (Lit.int .u8 z).wf = true) : oct.sumF (enc ty co re l) = 0 := by
  have h0 := (oct.ws_bd (msg ty co 0 re l) (fun z hz => u8Bd (msg_wf ty co 0 re l h z hz))).1
  have hb := oct.F_bd _ h0
  have e : oct.ws (enc ty co re l) = oct.ws (msg ty co 0 re l) + oct.sumF (msg ty co 0 re l) := by
    unfold enc
    have hs : 0 ≤ oct.sumF (msg ty co 0 re l) ∧ oct.sumF (msg ty co 0 re l) ≤ 65535 := by unfold oct.sumF; omega
    generalize oct.sumF (msg ty co 0 re l) = s at *
    simp only [msg, oct.ws]
    omega
  show 65535 - oct.F (oct.ws (enc ty co re l)) = 0
  rw [e]
  exact F_zero _ h0
set_option maxHeartbeats 4000000 in
theorem encAny (w : World) (ty co re : Int) (A : Option Addr) (n c : Nat) (l ls : List Int) (er : Int) (hl : Rd .u8 w A n l) (hc0 : A = none → c = 0) (h : EncOf ty co re n l ls er) :
    Calls Try.prog 11 #[.agg #[.int .i64 ty, .int .i64 co, .int .u32 re, .slice A n c]] w fun x w' => ∃ v, x = .returned (.tuple #[v, .int .i64 er]) ∧ Own .u8 5 w' w.heap.size v ls ∧ Only [] w w' := by
  cases h with
  | bad h =>
    by_cases h1 : ty < 0
    · go_enter Try.func11, Try.ntmps11
      go_wp2
      go_ret2
      exact ⟨_, rfl, Own.nil _ _ _ _, (Only.refl [] w).alloc _⟩
    · by_cases h2 : 255 < ty
      · go_enter Try.func11, Try.ntmps11
        go_wp2
        go_ret2
        exact ⟨_, rfl, Own.nil _ _ _ _, (Only.refl [] w).alloc _⟩
      · have d1 : decide (ty < 0) = false := by simpa using h1
        have d2 : decide (255 < ty) = false := by simpa using h2
        by_cases h3 : co < 0
        · have d3 : decide (co < 0) = true := by simpa using h3
          go_enter Try.func11, Try.ntmps11
          go_wp2
          go_ret2
          exact ⟨_, rfl, Own.nil _ _ _ _, (Only.refl [] w).alloc _⟩
        · have d3 : decide (co < 0) = false := by simpa using h3
          have d4 : decide (255 < co) = true := by simp; omega
          have h4 : 255 < co := by omega
          go_enter Try.func11, Try.ntmps11
          go_wp2
          go_ret2
          exact ⟨_, rfl, Own.nil _ _ _ _, (Only.refl [] w).alloc _⟩
  | long h hn =>
    obtain ⟨h1, h2, h3, h4⟩ := h
    go_enter Try.func11, Try.ntmps11
    go_wp2
    go_ret2
    exact ⟨_, rfl, Own.nil _ _ _ _, (Only.refl [] w).alloc _⟩
  | ok h hn => exact encode1 w ty co re A n c l hl hc0 hn ⟨h.1, h.2.1⟩ ⟨h.2.2.1, h.2.2.2⟩
set_option maxHeartbeats 4000000 in
theorem rencAny (w : World) (ty co re : Int) (A : Option Addr) (n c : Nat) (l ls : List Int) (er : Int) (hl : Rd .u8 w A n l) (hc0 : A = none → c = 0) (h : EncOf ty co re n l ls er) :
    Calls Try.prog 12 #[.agg #[.int .i64 ty, .int .i64 co, .int .u32 re, .slice A n c]] w fun x w' => ∃ v, x = .returned (.tuple #[v, .int .i64 er]) ∧ Own .u8 5 w' w.heap.size v ls ∧ Only [] w w' := by
  cases h with
  | bad h =>
    by_cases h1 : ty < 0
    · go_enter Try.func12, Try.ntmps12
      go_wp2
      go_ret2
      exact ⟨_, rfl, Own.nil _ _ _ _, (Only.refl [] w).alloc _⟩
    · by_cases h2 : 255 < ty
      · go_enter Try.func12, Try.ntmps12
        go_wp2
        go_ret2
        exact ⟨_, rfl, Own.nil _ _ _ _, (Only.refl [] w).alloc _⟩
      · have d1 : decide (ty < 0) = false := by simpa using h1
        have d2 : decide (255 < ty) = false := by simpa using h2
        by_cases h3 : co < 0
        · have d3 : decide (co < 0) = true := by simpa using h3
          go_enter Try.func12, Try.ntmps12
          go_wp2
          go_ret2
          exact ⟨_, rfl, Own.nil _ _ _ _, (Only.refl [] w).alloc _⟩
        · have d3 : decide (co < 0) = false := by simpa using h3
          have d4 : decide (255 < co) = true := by simp; omega
          have h4 : 255 < co := by omega
          go_enter Try.func12, Try.ntmps12
          go_wp2
          go_ret2
          exact ⟨_, rfl, Own.nil _ _ _ _, (Only.refl [] w).alloc _⟩
  | long h hn =>
    obtain ⟨h1, h2, h3, h4⟩ := h
    go_enter Try.func12, Try.ntmps12
    go_wp2
    go_ret2
    exact ⟨_, rfl, Own.nil _ _ _ _, (Only.refl [] w).alloc _⟩
  | ok h hn => exact renc1 w ty co re A n c l hl hc0 hn ⟨h.1, h.2.1⟩ ⟨h.2.2.1, h.2.2.2⟩
set_option maxHeartbeats 4000000 in
theorem encodesIn (w : World) (ty co re : Int) (A : Option Addr) (n c : Nat) (l : List Int) (hl : Rd .u8 w A n l) (hc0 : A = none → c = 0) (hn : n ≤ 70000) :
    Calls Try.prog 3 #[.agg #[.int .i64 ty, .int .i64 co, .int .u32 re, .slice A n c]] w fun x w' => x = .returned (.bool true) ∧ Only [] w w' := by
  obtain ⟨ls, er, hE⟩ := encOf_any ty co re n l
  have HE := hid hE
  have HLS := hid (encOf_len hl.len hE)
  have HER : Hid (er ≠ 0 ∨ (er = 0 ∧ oct.sumF ls = 0)) := hid (by
    cases hE with
    | bad h => exact .inl (by decide)
    | long h hn => exact .inl (by decide)
    | ok h hn => exact .inr ⟨rfl, enc_sum _ _ _ _ hl.wf⟩)
  clear hE
  have HLen := hid hl.len
  have HL := hid hl; clear hl
  have HC := hid hc0; clear hc0
  have OB : Hid (Ob (w.alloc (.cells #[.int .i64 ty, .int .i64 co, .int .u32 re, .slice A n c] 25)) w.heap.size 25 #[.int .i64 ty, .int .i64 co, .int .u32 re, .slice A n c]) := hid (Ob.new _ _ _)
  have QB : Hid (Only [] w (w.alloc (.cells #[.int .i64 ty, .int .i64 co, .int .u32 re, .slice A n c] 25))) := hid ((Only.refl [] w).alloc _)
  go_enter Try.func3, Try.ntmps3
  go_wp2_with fail
  refine (hlp.roomy _ A n c l (HL.out.only_nil QB.out) HC.out (by omega)).mono ?_
  rintro x w1 ⟨g, cap, rfl, hv, o1⟩
  have hcap := hv.len
  obtain ⟨_, hcap1, hcap2⟩ := hcap
  have hgl : w.heap.size + 1 ≤ g := by simpa using hv.base_le.1
  have V1 := hid hv; have OB := hid (OB.out.only o1 (by simp)); have QB := hid (QB.out.trans o1); clear hv o1
  have k0 := OB.out.cell 0
  have k1 := OB.out.cell 1
  have k2 := OB.out.cell 2
  have k3 := OB.out.cell 3
  have hlt1 := OB.out.lt
  go_wp2_with fail
  have hpre : Own .u8 5 w1 (w.heap.size + 1) (.slice (some ⟨g, 0, none⟩) n cap) l := by
    have h := (V1.out.pre (m := n) (by omega)).mono_base (base' := w.heap.size + 1) (by simp)
    rw [List.take_append_of_le_length (by rw [HLen.out]; exact Nat.le_refl n), List.take_of_length_le (by rw [HLen.out]; exact Nat.le_refl n)] at h
    exact h
  have VP := hid hpre; clear hpre
  clear k0 k1 k2 k3
  refine (encAny _ ty co re (some ⟨g, 0, none⟩) n cap l ls er (by first | exact VP.out.rd.alloc _ | exact (VP.out.rd.alloc _).setFar _ (by intro b off h; injection h with h; injection h with h; subst h; have := VP.out.base_le; simp; omega)) (by simp) HE.out).mono ?_
  rintro x w2 ⟨v2, rfl, hb, o2⟩
  have Q2 : Hid (Only [] w1 w2) := hid (by first | exact ((Only.refl [] w1).alloc _).trans o2 | exact (((Only.refl [] w1).alloc _).setCell (Or.inr (by simp)) _).trans o2)
  obtain ⟨A2, cap2, ev2, _, _, hr2, _⟩ := hb.slice
  subst ev2
  have R2 := hid hr2; clear hb o2 hr2
  have OB := hid (OB.out.only Q2.out (by simp)); have QB := hid (QB.out.trans Q2.out); have V1 := hid (V1.out.only_nil Q2.out)
  have k0 := OB.out.cell 0
  have k1 := OB.out.cell 1
  have k2 := OB.out.cell 2
  have k3 := OB.out.cell 3
  go_wp2_with fail
  clear k0 k1 k2 k3
  refine (rencAny _ ty co re A n c l ls er (HL.out.only_nil QB.out) HC.out HE.out).mono ?_
  rintro x w3 ⟨v3, rfl, hb, o3⟩
  obtain ⟨A3, cap3, ev3, _, _, hr3, _⟩ := hb.slice
  subst ev3
  have R3 := hid hr3; have R2 := hid (R2.out.only_nil o3)
  have OB := hid (OB.out.only o3 (by simp)); have QB := hid (QB.out.trans o3); have V1 := hid (V1.out.only_nil o3)
  clear hb o3 hr3
  go_wp2_with fail
  refine (hlp.same _ A2 A3 ls.length ls.length cap2 cap3 ls ls R2.out R3.out (by have := HLS.out; omega) (by have := HLS.out; omega)).mono ?_
  rintro x w4 ⟨rfl, m4, rfl⟩
  rw [show decide (ls = ls) = true from by simp]
  have k3 := (OB.out.drewN m4).cell 3
  go_wp2_with fail
  clear k3
  refine (hlp.stands _ _ A n cap c l (V1.out.rd.drewN _) (by omega) ((HL.out.only_nil QB.out).drewN _) (by omega)).mono ?_
  rintro x w5 ⟨rfl, m5, rfl⟩
  have her := HER.out
  rcases her with her | ⟨her, hs⟩
  · have e1 : (er != 0) = true := by simpa using her
    clear her
    go_wp2_with fail
    refine (known _).mono ?_
    rintro x w6 ⟨rfl, o6⟩
    have Q6 := hid ((QB.out.drewN _).trans o6); clear o6
    go_wp2
    go_ret
    exact ⟨rfl, Q6.out⟩
  · subst her
    have HS := hid hs; clear hs
    go_wp2_with fail
    refine (oct.sum1 _ A2 ls.length cap2 ls (R2.out.drewN _) (by have := HLS.out; omega)).mono ?_
    rintro x w6 ⟨rfl, m6, rfl⟩
    rw [HS.out]
    go_wp2_with fail
    refine (known _).mono ?_
    rintro x w7 ⟨rfl, o7⟩
    have Q7 := hid ((QB.out.drewN _).trans o7); clear o7
    go_wp2
    go_ret
    exact ⟨rfl, Q7.out⟩
theorem encodesOut (w : World) (ty co re : Int) (A : Option Addr) (n c : Nat) (hn : ¬ n ≤ 70000) :
    Calls Try.prog 3 #[.agg #[.int .i64 ty, .int .i64 co, .int .u32 re, .slice A n c]] w fun x w' => x = .returned (.bool true) ∧ Only [] w w' := by
  have h : 70000 < n := by omega
  go_enter Try.func3, Try.ntmps3
  go_wp2
  go_ret
  exact ⟨rfl, (Only.refl [] w).alloc _⟩
theorem encodes (w : World) (ty co re : Int) (A : Option Addr) (n c : Nat) (l : List Int) (hl : Rd .u8 w A n l) (hc0 : A = none → c = 0) :
    Calls Try.prog 3 #[.agg #[.int .i64 ty, .int .i64 co, .int .u32 re, .slice A n c]] w fun x w' => x = .returned (.bool true) ∧ Only [] w w' := by
  by_cases hn : n ≤ 70000
  · exact encodesIn w ty co re A n c l hl hc0 hn
  · exact encodesOut w ty co re A n c hn
end Go.Proofs.Ytekanilgeigddaa.icm
