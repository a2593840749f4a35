/-
  octet.Reader: what each of its functions does, by a walk of each text. Conditions: none but those typed.
-/
import Derived.Test.YtdpmjghdmpaehaaRows
import Derived.Test.YtdpmjghdmpaehaaOwn
import Derived.Test.YtdpmjghdmpaehaaWrt
import Derived.Test.YtdpmjghdmpaehaaOrm
import Derived.Deep.QuietTactic
import Derived.BigQuiet
import Derived.Laws.EntriesVeiled
import Derived.WalkSpells
namespace Go.Proofs.Ytdpmjghdmpaehaa.rdr
set_option linter.unusedVariables false
set_option linter.unusedSimpArgs false
open Go.ChangeShapes Go.WideShapes Go.ChangeAt Go.RowKit Go.IntWalk Go.Lib
/-- The two cells of the closure: its error and its bytes. -/
structure St (w : World) (e p : Nat) (er : Int) (A : Option Addr) (m c : Nat) (l : List Int) : Prop where
  he : Ob w e 29 #[.int .i64 er]
  hp : Ob w p 28 #[.slice A m c]
  ne : e ≠ p
  rd : Rd .u8 w A m l
  c0 : A = none → c = 0
  mc : m ≤ c
  cm : c ≤ maxLen
  far : ∀ b off, A = some ⟨b, off, none⟩ → b ≠ e ∧ b ≠ p
  form : A = none ∨ ∃ b off, A = some ⟨b, off, none⟩
theorem cl_none (w : World) (e p : Nat) (h : St w e p 0 none 0 0 []) :
    Calls Try.prog 68 #[.int .i64 0, .pointer (some ⟨e, 0, none⟩), .pointer (some ⟨p, 0, none⟩)] w fun x w' => x = .returned (.tuple #[.slice none 0 0, .int .i64 0, .int .i64 0]) ∧ Only [p] w w' ∧ St w' e p 0 none 0 0 [] := by
  have c0 := h.he.cell 0
  have c1 := h.hp.cell 0
  have f1 := h.hp.frozen 0
  have hne := h.ne
  have H := hid h; clear h
  go_enter Try.func68, Try.ntmps68
  go_wp2
  go_quiet (fail)
  go_wp2
  go_ret3
  exact ⟨rfl, ((Only.refl [p] w).setCell (Or.inl (by simp)) _).drewN _, (H.out.he.far (by simpa using hne) _).drewN _, (H.out.hp.set 0 _).drewN _, hne, Rd.nil _ _ _, fun _ => rfl, by omega, by unfold maxLen; omega, by simp, .inl rfl⟩
set_option maxHeartbeats 1000000 in
theorem cl_some (w : World) (e p b off m c : Nat) (l : List Int) (k : Nat) (h : St w e p 0 (some ⟨b, off, none⟩) m c l) (hk : k ≤ m) :
    Calls Try.prog 68 #[.int .i64 k, .pointer (some ⟨e, 0, none⟩), .pointer (some ⟨p, 0, none⟩)] w fun x w' => x = .returned (.tuple #[.slice (some ⟨b, off, none⟩) k c, .int .i64 ((m : Int) - k), .int .i64 0]) ∧ Only [p] w w' ∧ ∃ A', St w' e p 0 A' (m - k) (c - k) (l.drop k) ∧ (∀ b' off', A' = some ⟨b', off', none⟩ → b' = b) := by
  have c0 := h.he.cell 0
  have c1 := h.hp.cell 0
  have f1 := h.hp.frozen 0
  have hne := h.ne
  have hmc := h.mc
  have hcm := h.cm
  unfold maxLen at hcm
  have hlt := h.hp.lt
  have H := hid h; clear h
  have d1 : decide ((m : Int) < (k : Int)) = false := by simpa using hk
  have d2 : decide (m < k) = false := by simpa using hk
  have hd : ((m - k : Nat) : Int) = (m : Int) - (k : Int) := by omega
  by_cases hkc : k = c
  · subst hkc
    obtain rfl : m = k := by omega
    go_enter Try.func68, Try.ntmps68
    go_wp2
    go_quiet (fail)
    go_wp2
    go_ret3
    refine ⟨by simp, ((Only.refl [p] w).setCell (Or.inl (by simp)) _).drewN _, some ⟨b, off, none⟩, ⟨(H.out.he.far (by simpa using hne) _).drewN _, ?_, hne, ?_, by simp, by omega, by unfold maxLen; omega, H.out.far, .inr ⟨_, _, rfl⟩⟩, by intro b' off' h; injection h with h; injection h with h1 h2; exact h1.symm⟩
    · have := (H.out.hp.set 0 (.slice (some ⟨b, off, none⟩) 0 0)).drewN nq
      simpa using this
    · rw [Nat.sub_self]
      have : l.drop m = [] := List.drop_of_length_le (by rw [H.out.rd.len]; exact Nat.le_refl m)
      rw [this]
      exact Rd.nil _ _ _
  · go_enter Try.func68, Try.ntmps68
    go_wp2
    go_quiet (fail)
    go_wp2
    go_ret3
    refine ⟨by simp [hd], ((Only.refl [p] w).setCell (Or.inl (by simp)) _).drewN _, some ⟨b, off + k, none⟩, ⟨(H.out.he.far (by simpa using hne) _).drewN _, ?_, hne, ?_, by simp, by omega, by unfold maxLen; omega, ?_, .inr ⟨_, _, rfl⟩⟩, by intro b' off' h; injection h with h; injection h with h1 h2; exact h1.symm⟩
    · have := (H.out.hp.set 0 (.slice (some ⟨b, off + k, none⟩) (m - k) (c - k))).drewN nq
      simpa using this
    · refine Rd.drewN ?_ _
      exact (H.out.rd.drop k hk).setFar _ (fun b' off' h => by injection h with h; injection h with h1 h2; subst h1; exact (H.out.far b off rfl).2)
    · intro b' off' h; injection h with h; injection h with h1 h2; subst h1; exact H.out.far b off rfl
theorem cl_bad (w : World) (e p : Nat) (A : Option Addr) (m c : Nat) (l : List Int) (n : Int) (h : St w e p 0 A m c l) (hn : n < 0 ∨ (m : Int) < n) :
    Calls Try.prog 68 #[.int .i64 n, .pointer (some ⟨e, 0, none⟩), .pointer (some ⟨p, 0, none⟩)] w fun x w' => x = .returned (.tuple #[.slice none 0 0, .int .i64 0, .int .i64 2]) ∧ Only [e, p] w w' ∧ St w' e p 2 none 0 0 [] := by
  have c0 := h.he.cell 0
  have c1 := h.hp.cell 0
  have f0 := h.he.frozen 0
  have f1 := h.hp.frozen 0
  have hne := h.ne
  have hne' : ¬ p = e := fun h => hne h.symm
  have H := hid h; clear h
  by_cases h1 : n < 0
  all_goals
    (try have h2 : (m : Int) < n := by omega)
    clear hn
    go_enter Try.func68, Try.ntmps68
    go_wp2
    go_quiet (fail)
    go_wp2
    go_ret3
    exact ⟨rfl, (((Only.refl [e, p] w).setCell (Or.inl (by simp)) _).setCell (Or.inl (by simp)) _).drewN _, ((H.out.he.far (by simpa using hne) _).set 0 _).drewN _, ((H.out.hp.set 0 _).far (by simpa using hne') _).drewN _, hne, Rd.nil _ _ _, fun _ => rfl, by omega, by unfold maxLen; omega, by simp, .inl rfl⟩
theorem cl_dead (w : World) (e p : Nat) (n : Int) (he : Ob w e 29 #[.int .i64 2]) :
    Calls Try.prog 68 #[.int .i64 n, .pointer (some ⟨e, 0, none⟩), .pointer (some ⟨p, 0, none⟩)] w fun x w' => x = .returned (.tuple #[.slice none 0 0, .int .i64 0, .int .i64 2]) ∧ ∃ m, w' = w.drewN m := by
  have c0 := he.cell 0
  clear he
  go_enter Try.func68, Try.ntmps68
  go_wp2
  go_quiet (fail)
  go_wp2
  go_ret3
  exact ⟨rfl, _, rfl⟩
/-- A Reader with its closure, in blocks from base on: er its error, l what is left. -/
def Rdr (w : World) (base top r e p : Nat) (er : Int) (l : List Int) : Prop :=
  ∃ A c, Ob w r 98 #[.func (.func 68) #[] #[.pointer (some ⟨e, 0, none⟩), .pointer (some ⟨p, 0, none⟩)]] ∧ St w e p er A l.length c l ∧ r ≠ e ∧ r ≠ p ∧ (base ≤ r ∧ r < top) ∧ (base ≤ e ∧ e < top) ∧ (base ≤ p ∧ p < top) ∧ (∀ b off, A = some ⟨b, off, none⟩ → (base ≤ b ∧ b < top) ∧ b ≠ r)
theorem Rdr.err {w : World} {base top r e p : Nat} {er : Int} {l : List Int} (h : Rdr w base top r e p er l) : base ≤ w.heap.size := by
  obtain ⟨A, c, hr, _, _, _, hb, _⟩ := h
  have := hr.lt
  omega
theorem St.only {S : List Nat} {w w' : World} {e p : Nat} {er : Int} {A : Option Addr} {m c : Nat} {l : List Int} (h : St w e p er A m c l) (o : Only S w w') (he : e ∉ S) (hp : p ∉ S) (hA : ∀ b off, A = some ⟨b, off, none⟩ → b ∉ S) : St w' e p er A m c l :=
  ⟨h.he.only o he, h.hp.only o hp, h.ne, h.rd.only o (fun b off e _ => hA b off e), h.c0, h.mc, h.cm, h.far, h.form⟩
theorem Rdr.only {S : List Nat} {w w' : World} {base top r e p : Nat} {er : Int} {l : List Int} (h : Rdr w base top r e p er l) (o : Only S w w') (hs : ∀ i ∈ S, i < base ∨ top ≤ i) : Rdr w' base top r e p er l := by
  obtain ⟨A, c, hr, hst, h1, h2, h3, h4, h5, h6⟩ := h
  refine ⟨A, c, hr.only o (fun hm => by have := hs r hm; omega), hst.only o (fun hm => by have := hs e hm; omega) (fun hm => by have := hs p hm; omega) (fun b off e' hm => by have := hs b hm; have := (h6 b off e').1; omega), h1, h2, h3, h4, h5, h6⟩
/-- What is new in the world does not touch a Reader. -/
theorem Rdr.apart {S : List Nat} {w w' : World} {base top r e p : Nat} {er : Int} {l : List Int} (h : Rdr w base top r e p er l) (o : Only S w w') (hs : ∀ i ∈ S, w.heap.size ≤ i) : Rdr w' base top r e p er l := by
  obtain ⟨A, c, hr, hst, h1, h2, h3, h4, h5, h6⟩ := h
  have q1 := hr.lt
  have q2 := hst.he.lt
  have q3 := hst.hp.lt
  refine ⟨A, c, hr.only o (fun hm => by have := hs r hm; omega), ⟨hst.he.only o (fun hm => by have := hs e hm; omega), hst.hp.only o (fun hm => by have := hs p hm; omega), hst.ne, hst.rd.only o (fun b off e' hb hm => by have := hs b hm; omega), hst.c0, hst.mc, hst.cm, hst.far, hst.form⟩, h1, h2, h3, h4, h5, h6⟩
theorem Rdr.lows {w : World} {base top r e p : Nat} {er : Int} {l : List Int} (h : Rdr w base top r e p er l) : base ≤ e ∧ base ≤ p ∧ e < w.heap.size ∧ p < w.heap.size := by
  obtain ⟨A, c, hr, hst, h1, h2, h3, h4, h5, h6⟩ := h
  exact ⟨h4.1, h5.1, hst.he.lt, hst.hp.lt⟩
theorem Rdr.only_nil {w w' : World} {base top r e p : Nat} {er : Int} {l : List Int} (h : Rdr w base top r e p er l) (o : Only [] w w') : Rdr w' base top r e p er l := h.only o (by simp)
theorem Rdr.drewN {w : World} {base top r e p : Nat} {er : Int} {l : List Int} (h : Rdr w base top r e p er l) (n : Nat) : Rdr (w.drewN n) base top r e p er l := h.only_nil ((Only.refl [] w).drewN n)
set_option maxHeartbeats 1000000 in
theorem take_ok (w : World) (base top r e p : Nat) (l : List Int) (n : Int) (k : Nat) (h : Rdr w base top r e p 0 l) (hn : n = k) (hk : k ≤ l.length) :
    Calls Try.prog 69 #[.pointer (some ⟨r, 0, none⟩), .int .i64 n] w fun x w' => ∃ A c, x = .returned (.tuple #[.slice A k c, .int .i64 ((l.length : Int) - k), .int .i64 0]) ∧ Rd .u8 w' A k (l.take k) ∧ (A = none → c = 0) ∧ Rdr w' base top r e p 0 (l.drop k) ∧ Only [e, p] w w' := by
  subst hn
  have HB := hid h.err
  obtain ⟨A, c, hr, hst, h1, h2, h3, h4, h5, h6⟩ := h
  have c0 := hr.cell 0
  have HR := hid hr; have HS := hid hst; clear hr
  have H6 := hid h6; clear h6
  have kf : ∀ w : World, Sem.run Try.prog (binOp BinOp.eql 95 (Value.func (Fn.func 68) #[] #[.pointer (some ⟨e, 0, none⟩), .pointer (some ⟨p, 0, none⟩)]) Value.nilFunc) w = Result.ok (Value.bool false) w := fun _ => by kernel_rfl
  have HK : Hid ((l.drop k).length = l.length - k) := hid (by simp)
  rcases hst.form with rfl | ⟨b, off, rfl⟩
  · have hl0 : l.length = 0 := by
      rcases Nat.eq_zero_or_pos l.length with h0 | h0
      · exact h0
      · obtain ⟨b, off, h, _⟩ := hst.rd.cells h0; cases h
    have hl : l = [] := List.eq_nil_of_length_eq_zero hl0
    subst hl
    obtain rfl : k = 0 := by simpa using hk
    obtain rfl : c = 0 := hst.c0 rfl
    clear hst
    go_enter Try.func69, Try.ntmps69
    go_wp2_with fail
    refine (cl_none w e p HS.out).mono ?_
    rintro x w2 ⟨rfl, o2, hs2⟩
    have O2 := hid o2; have HS2 := hid hs2; clear o2 hs2
    go_wp2
    try go_quiet (fail)
    try go_wp2
    go_ret3
    exact ⟨none, 0, by simp, Rd.nil _ _ _, fun _ => rfl, ⟨none, 0, HR.out.only O2.out (by simpa using h2), HS2.out, h1, h2, h3, h4, h5, by simp⟩, O2.out.more (by simp)⟩
  · have HRd := hid hst.rd
    clear hst
    generalize hL : l.length = L at *
    have HL := hid hL; clear hL
    go_enter Try.func69, Try.ntmps69
    go_wp2_with fail
    refine (cl_some w e p b off L c l k HS.out hk).mono ?_
    rintro x w2 ⟨rfl, o2, A2, hs2, hA2⟩
    have O2 := hid o2; have HS2 := hid hs2; have HA2 := hid hA2; clear o2 hs2 hA2
    go_wp2
    try go_quiet (fail)
    try go_wp2
    go_ret3
    have hb := H6.out b off rfl
    have hp2 := (HS.out.far b off rfl).2
    refine ⟨some ⟨b, off, none⟩, c, by simp, (HRd.out.take k hk).only O2.out ?_, by simp, ⟨A2, c - k, HR.out.only O2.out (by simpa using h2), ?_, h1, h2, h3, h4, h5, ?_⟩, O2.out.more (by simp)⟩
    · intro b' off' h _ hm
      injection h with h; injection h with e1 e2; subst e1
      exact hp2 (by simpa using hm)
    · rw [HK.out]; exact HS2.out
    · intro b' off' h
      rw [HA2.out b' off' h]; exact hb
set_option maxHeartbeats 1000000 in
theorem take_bad (w : World) (base top r e p : Nat) (er : Int) (l : List Int) (n : Int) (h : Rdr w base top r e p er l) (hn : er = 2 ∨ (er = 0 ∧ (n < 0 ∨ (l.length : Int) < n))) :
    Calls Try.prog 69 #[.pointer (some ⟨r, 0, none⟩), .int .i64 n] w fun x w' => x = .returned (.tuple #[.slice none 0 0, .int .i64 0, .int .i64 2]) ∧ (∃ l', Rdr w' base top r e p 2 l') ∧ Only [e, p] w w' := by
  have HB := hid h.err
  obtain ⟨A, c, hr, hst, h1, h2, h3, h4, h5, h6⟩ := h
  have c0 := hr.cell 0
  have HR := hid hr; have HS := hid hst; clear hr hst
  have H6 := hid h6; clear h6
  have kf : ∀ w : World, Sem.run Try.prog (binOp BinOp.eql 95 (Value.func (Fn.func 68) #[] #[.pointer (some ⟨e, 0, none⟩), .pointer (some ⟨p, 0, none⟩)]) Value.nilFunc) w = Result.ok (Value.bool false) w := fun _ => by kernel_rfl
  rcases hn with rfl | ⟨rfl, hn⟩
  · go_enter Try.func69, Try.ntmps69
    go_wp2_with fail
    refine (cl_dead w e p n HS.out.he).mono ?_
    rintro x w2 ⟨rfl, m2, rfl⟩
    go_wp2
    try go_quiet (fail)
    try go_wp2
    go_ret3
    refine ⟨rfl, ⟨l, ?_⟩, ?_⟩
    · have : Rdr w base top r e p 2 l := ⟨A, c, HR.out, HS.out, h1, h2, h3, h4, h5, H6.out⟩
      exact this.drewN m2
    · exact (Only.refl _ w).drewN m2
  · go_enter Try.func69, Try.ntmps69
    go_wp2_with fail
    refine (cl_bad w e p A l.length c l n HS.out hn).mono ?_
    rintro x w2 ⟨rfl, o2, hs2⟩
    have O2 := hid o2; have HS2 := hid hs2; clear o2 hs2
    go_wp2
    try go_quiet (fail)
    try go_wp2
    go_ret3
    exact ⟨rfl, ⟨[], none, 0, HR.out.only O2.out (by simp; exact ⟨h1, h2⟩), HS2.out, h1, h2, h3, h4, h5, by simp⟩, O2.out⟩
/-- A row of bytes as a number. -/
def num (l : List Int) : Int := l.foldl (fun v b => v * 256 + b) 0
theorem num_snoc (l : List Int) (x : Int) : num (l ++ [x]) = num l * 256 + x := by simp [num]
theorem num_bd : ∀ (l : List Int), l.length ≤ 3 → (∀ z ∈ l, 0 ≤ z ∧ z ≤ 255) → 0 ≤ num l ∧ num l ≤ 16777215
  | [], _, _ => by simp [num]
  | [a], _, h => by have := h a (by simp); simp [num]; omega
  | [a, b], _, h => by have := h a (by simp); have := h b (by simp); simp [num]; omega
  | [a, b, c], _, h => by have := h a (by simp); have := h b (by simp); have := h c (by simp); simp [num]; omega
  | _ :: _ :: _ :: _ :: _, hl, _ => by simp at hl
set_option maxHeartbeats 1000000 in
theorem number_ok (w : World) (base top r e p : Nat) (l : List Int) (n : Int) (k : Nat) (h : Rdr w base top r e p 0 l) (hn : n = k) (hk : k ≤ l.length) (h4 : k ≤ 4) (hpos : 0 < k) :
    Calls Try.prog 66 #[.pointer (some ⟨r, 0, none⟩), .int .i64 n] w fun x w' => x = .returned (.int .u32 (num (l.take k))) ∧ Rdr w' base top r e p 0 (l.drop k) ∧ Only [e, p] w w' := by
  subst hn
  have H := hid h; clear h
  go_enter Try.func66, Try.ntmps66
  go_wp2_with fail
  refine (take_ok w base top r e p l _ k H.out rfl hk).mono ?_
  rintro x w2 ⟨A, c, rfl, hrd, hc0, hr2, hb2⟩
  obtain ⟨b, off, rfl, hlt, hc⟩ := hrd.at_ hpos
  have HR := hid hr2; have HB := hid hb2; have HC := hid hc
  have HW : Hid (∀ z ∈ l.take k, 0 ≤ z ∧ z ≤ 255) := hid (fun z hz => u8Bd (hrd.wf z hz))
  have HG : Hid (∀ j, j < k → (Lit.int .u8 ((l.take k).getD j 0)).wf = true) := hid (fun j hj => hrd.getD_wf j hj)
  have HL : Hid ((l.take k).length = k) := hid hrd.len
  clear hr2 hb2 hc hrd hc0
  generalize hT : l.take k = t at HC HW HG HL
  have HT0 := hid hT; clear hT
  go_wp2
  go_loop [8, 20] (fun v i => ∃ (j : Nat), j ≤ k ∧ i = .int .i64 j ∧ v = .int .u32 (num (t.take j))) (fun _ i => k - (intOf i).toNat)
  case atStart => exact ⟨0, by omega, rfl, by simp [num]⟩
  case round =>
    obtain ⟨j, hj, rfl, rfl⟩ := hrel
    by_cases hlt2 : j < k
    · have q0 := HC.out j hlt2
      have w0 := u8Bd (HG.out j hlt2)
      have hnb := num_bd (t.take j) (by rw [List.length_take]; omega) (fun z hz => HW.out z (List.mem_of_mem_take hz))
      have hs : t.take (j + 1) = t.take j ++ [t.getD j 0] := by
        have hjl : j < t.length := by rw [HL.out]; exact hlt2
        rw [List.take_succ_eq_append_getElem hjl, List.getD_eq_getElem?_getD, List.getElem?_eq_getElem hjl]
        rfl
      have HN : Hid (num (t.take (j + 1)) = num (t.take j) * 256 + t.getD j 0) := hid (by rw [hs, num_snoc])
      clear hs
      generalize t.getD j 0 = y at *
      generalize num (t.take j) = v at *
      have hor : bits .or .u32 (v * 256) y = v * 256 + y := u32_or_mul v y 8 256 (by decide) hnb.1 w0.1 (by omega) (by omega)
      go_wp2
      go_round
      case rel => exact ⟨j + 1, by omega, by go_num, by rw [HN.out]⟩
      case measure => simp [intOf]; omega
    · have ht : t.take j = t := List.take_of_length_le (by rw [HL.out]; omega)
      have HT := hid ht; clear ht
      go_wp2
      go_ret
      exact ⟨rInt (by rw [HT.out, HT0.out]), HR.out, HB.out⟩
theorem number_bad (w : World) (base top r e p : Nat) (er : Int) (l : List Int) (n : Int) (h : Rdr w base top r e p er l) (hn : er = 2 ∨ (er = 0 ∧ (n < 0 ∨ (l.length : Int) < n))) :
    Calls Try.prog 66 #[.pointer (some ⟨r, 0, none⟩), .int .i64 n] w fun x w' => x = .returned (.int .u32 0) ∧ (∃ l', Rdr w' base top r e p 2 l') ∧ Only [e, p] w w' := by
  have H := hid h; clear h
  have HN := hid hn; clear hn
  go_enter Try.func66, Try.ntmps66
  go_wp2_with fail
  refine (take_bad w base top r e p er l n H.out HN.out).mono ?_
  rintro x w2 ⟨rfl, hr2, hb2⟩
  have HR := hid hr2; have HB := hid hb2; clear hr2 hb2
  go_wp2
  go_loop [8, 20] (fun v i => v = .int .u32 0 ∧ i = .int .i64 0) (fun _ _ => 0)
  case atStart => exact ⟨rfl, rfl⟩
  case round =>
    obtain ⟨rfl, rfl⟩ := hrel
    go_wp2
    go_ret
    exact ⟨rfl, HR.out, HB.out⟩
theorem num4_bd : ∀ (l : List Int), l.length ≤ 4 → (∀ z ∈ l, 0 ≤ z ∧ z ≤ 255) → 0 ≤ num l ∧ num l ≤ 4294967295
  | [], _, _ => by simp [num]
  | [a], _, h => by have := h a (by simp); simp [num]; omega
  | [a, b], _, h => by have := h a (by simp); have := h b (by simp); simp [num]; omega
  | [a, b, c], _, h => by have := h a (by simp); have := h b (by simp); have := h c (by simp); simp [num]; omega
  | [a, b, c, d], _, h => by have := h a (by simp); have := h b (by simp); have := h c (by simp); have := h d (by simp); simp [num]; omega
  | _ :: _ :: _ :: _ :: _ :: _, hl, _ => by simp at hl
theorem Rdr.wf {w : World} {base top r e p : Nat} {er : Int} {l : List Int} (h : Rdr w base top r e p er l) : ∀ z ∈ l, 0 ≤ z ∧ z ≤ 255 := by
  obtain ⟨A, c, hr, hst, _⟩ := h
  exact fun z hz => u8Bd (hst.rd.wf z hz)
theorem four_ok (w : World) (base top r e p : Nat) (l : List Int) (h : Rdr w base top r e p 0 l) (hk : 4 ≤ l.length) :
    Calls Try.prog 60 #[.pointer (some ⟨r, 0, none⟩)] w fun x w' => x = .returned (.int .u32 (num (l.take 4))) ∧ Rdr w' base top r e p 0 (l.drop 4) ∧ Only [e, p] w w' := by
  have H := hid h; clear h
  have hb := num4_bd (l.take 4) (by rw [List.length_take]; omega) (fun z hz => H.out.wf z (List.mem_of_mem_take hz))
  go_enter Try.func60, Try.ntmps60
  go_wp2_with fail
  refine (number_ok w base top r e p l 4 4 H.out rfl hk (by omega) (by omega)).mono ?_
  rintro x w2 ⟨rfl, hr2, hb2⟩
  have HR := hid hr2; have HB := hid hb2; clear hr2 hb2
  go_wp2
  go_ret
  exact ⟨rfl, HR.out, HB.out⟩
theorem four_bad (w : World) (base top r e p : Nat) (er : Int) (l : List Int) (h : Rdr w base top r e p er l) (hn : er = 2 ∨ (er = 0 ∧ l.length < 4)) :
    Calls Try.prog 60 #[.pointer (some ⟨r, 0, none⟩)] w fun x w' => x = .returned (.int .u32 0) ∧ (∃ l', Rdr w' base top r e p 2 l') ∧ Only [e, p] w w' := by
  have H := hid h; clear h
  have HN : Hid (er = 2 ∨ (er = 0 ∧ ((4 : Int) < 0 ∨ (l.length : Int) < 4))) := hid (by omega)
  clear hn
  go_enter Try.func60, Try.ntmps60
  go_wp2_with fail
  refine (number_bad w base top r e p er l 4 H.out HN.out).mono ?_
  rintro x w2 ⟨rfl, hr2, hb2⟩
  have HR := hid hr2; have HB := hid hb2; clear hr2 hb2
  go_wp2
  go_ret
  exact ⟨rfl, HR.out, HB.out⟩
theorem reading1 (w : World) (A : Option Addr) (n c : Nat) :
    Calls Try.prog 65 #[.slice A n c] w fun x w' => x = .returned (.func (.func 68) #[] #[.pointer (some ⟨w.heap.size + 1, 0, none⟩), .pointer (some ⟨w.heap.size, 0, none⟩)]) ∧ Only [] w w' ∧ Ob w' (w.heap.size + 1) 29 #[.int .i64 0] ∧ Ob w' w.heap.size 28 #[.slice A n c] ∧ w.heap.size + 2 ≤ w'.heap.size := by
  go_enter Try.func65, Try.ntmps65
  go_wp2
  go_ret
  refine ⟨rfl, ?_, ?_, ?_, by simp⟩
  · repeat (first | exact Only.refl _ _ | refine Only.setCell ?_ (Or.inr (by simp)) _ | refine Only.alloc ?_ _)
  · first
      | (simpa using Ob.new (w.alloc (.cells #[.slice A n c] 28)) 29 #[.int .i64 0])
      | (simpa using Ob.set (Ob.new (w.alloc (.cells #[.slice A n c] 28)) 29 #[.int .i64 0]) 0 (.int .i64 0))
  · first
      | exact (Ob.new w _ _).alloc _
      | exact ((Ob.new w _ _).alloc _).far (by simp) _
theorem new1 (w : World) (A : Option Addr) (n c : Nat) (l : List Int) (hl : Rd .u8 w A n l) (hc0 : A = none → c = 0) (hn : n ≤ 70368744177664) :
    Calls Try.prog 59 #[.slice A n c] w fun x w' => ∃ r e p, x = .returned (.pointer (some ⟨r, 0, none⟩)) ∧ Rdr w' w.heap.size w'.heap.size r e p 0 l ∧ Only [] w w' := by
  have HL := hid hl; clear hl
  have HC := hid hc0; clear hc0
  have HLen := hid HL.out.len
  go_enter Try.func59, Try.ntmps59
  go_wp2_with fail
  refine (wrt.clone1 w A n c l HL.out HC.out hn).mono ?_
  rintro x w1 ⟨v, rfl, hv, o1⟩
  obtain ⟨A1, cap1, ev, hle, hmx, hrd, hblk⟩ := hv.slice
  have HV := hid hv; have O1 := hid o1; have RD := hid hrd; have HK := hid hblk; clear hv o1 hrd hblk
  subst ev
  go_wp2_with fail
  refine (reading1 w1 A1 l.length cap1).mono ?_
  rintro x w2 ⟨rfl, o2, he, hp, hs⟩
  have O2 := hid o2; have HE := hid he; have HP := hid hp; clear o2 he hp
  have s1 := O1.out.size
  go_wp2
  go_ret
  refine ⟨_, _, _, rfl, ⟨A1, cap1, Ob.new _ _ _, ⟨HE.out.alloc _, HP.out.alloc _, by omega, (RD.out.only_nil O2.out).alloc _, ?_, hle, hmx, ?_, ?_⟩, by omega, by omega, by simp; omega, by simp; omega, by simp; omega, ?_⟩, (O1.out.trans O2.out).alloc _⟩
  · intro h
    rcases HV.out.1.2 with ⟨hv, _⟩ | ⟨g', cap', cur, hv, _⟩
    · injection hv
    · rw [h] at hv; cases hv
  · intro b off h
    have := HV.out.lt b (by rw [h]; rfl)
    omega
  · rcases HV.out.1.2 with ⟨hv, _⟩ | ⟨g', cap', cur, hv, _⟩
    · injection hv with h1; exact .inl h1
    · injection hv with h1; exact .inr ⟨_, _, h1⟩
  · intro b off h
    have := HV.out.lt b (by rw [h]; rfl)
    simp
    omega
end Go.Proofs.Ytdpmjghdmpaehaa.rdr
