/-
  Chapter 3 (wheel): a new wheel; two lists of numbers; what is known; the laws WheelMoves and WheelRoom, by a walk of each text. Conditions: none but those typed.
-/
import Derived.Test.YtnachendenodkaaWhlG
import Derived.Deep.QuietTactic
import Derived.BigQuiet
namespace Go.Proofs.Ytnachendenodkaa.whl
set_option linter.unusedVariables false
set_option linter.unusedSimpArgs false
open Go.ChangeShapes Go.WideShapes Go.ChangeAt Go.RowKit Go.IntWalk Go.Lib
def vs0 : List Value := List.replicate 64 nilv
theorem vs0_at (s : Nat) : vs0.getD s nilv = nilv := by
  unfold vs0
  rw [List.getD_eq_getElem?_getD, List.getElem?_replicate]
  split <;> rfl
theorem vs0_blocks (b : Nat) : b ∉ blocks vs0 := fun h => by
  obtain ⟨s, hs, e⟩ := mem_blocks h
  rw [vs0_at] at e
  simp [nilv, Value.ownBlock] at e
/-- A new wheel has no timer. -/
theorem newW (w : World) : WV (w.alloc (.cells (Wh vs0 0) 27)) w.heap.size vs0 [] :=
  ⟨⟨Ob.new _ _ _, by simp [vs0], fun s hs => by rw [vs0_at]; exact nil_own _ _, fun s t hs ht hst b hb => by rw [vs0_at] at hb; simp [nilv, Value.ownBlock] at hb⟩, by simp [keys], fun t ht => (by cases ht), by simp⟩
def newC : Array Value := Wh vs0 0
theorem zeroW (W : World) : (zeroValue 27).run Try.prog W = .ok (.agg newC) W := by kernel_rfl
/-- Two lists of numbers. -/
theorem ints1 (w : World) (A B : Option Addr) (n m cA cB : Nat) (l r : List Int) (hl : Rd .i64 w A n l) (hr : Rd .i64 w B m r) (hn : n ≤ 140737488355328) : Calls Try.prog 17 #[.slice A n cA, .slice B m cB] w fun x w' => x = .returned (.bool (decide (l = r))) ∧ Only [] w w' := by
  have Q : Hid (Only [] w w) := hid (Only.refl _ _)
  have HL := hid hl; have HR := hid hr
  have Hl := hid hl.len; have Hr := hid hr.len
  clear hl hr
  by_cases hnm : n = m
  · subst hnm
    go_enter Try.func17, Try.ntmps17
    go_wp2_with fail
    go_loopw [5] (fun i wr => ∃ k : Nat, k ≤ n ∧ i = .int .i64 k ∧ Hid (∀ j, j < k → l.getD j 0 = r.getD j 0) ∧ Hid (Only [] w wr)) (fun i _ => n - (intOf i).toNat)
    case atStart => exact ⟨0, by omega, rfl, hid (fun j hj => absurd hj (by omega)), Q⟩
    case round =>
      obtain ⟨k, hk, rfl, HK, HB⟩ := hrel
      by_cases hlt : k < n
      · obtain ⟨b, off, rfl, hb, hc⟩ := (HL.out.only_nil HB.out).at_ (by omega)
        obtain ⟨b2, off2, rfl, hb2, hc2⟩ := (HR.out.only_nil HB.out).at_ (by omega)
        have q0 := hc k hlt
        have q1 := hc2 k hlt
        clear hc hc2 hb hb2
        obtain ⟨u, hu⟩ : ∃ u, l.getD k 0 = u := ⟨_, rfl⟩
        obtain ⟨v, hv⟩ : ∃ v, r.getD k 0 = v := ⟨_, rfl⟩
        rw [hu] at q0; rw [hv] at q1
        have HU := hid hu; have HV := hid hv
        clear hu hv
        by_cases he : u = v
        · have e1 : (u != v) = false := by simpa using he
          have HE := hid he
          clear he
          go_wp2_with fail
          go_quiet (fail)
          go_wp2
          go_roundw
          case rel => exact ⟨k + 1, by omega, by go_num, hid (fun j hj => by
            rcases Nat.lt_or_ge j k with h1 | h1
            · exact HK.out j h1
            · obtain rfl : j = k := by omega
              rw [HU.out, HV.out]; exact HE.out), hid (HB.out.drewN _)⟩
          case measure => simp [intOf]; omega
        · have e1 : (u != v) = true := by simpa using he
          have HE : Hid (decide (l = r) = false) := hid (by
            apply decide_eq_false
            intro e
            subst e
            exact he (by rw [← HU.out, ← HV.out]))
          clear he
          go_wp2_with fail
          go_quiet (fail)
          go_wp2
          go_ret
          exact ⟨rBool HE.out.symm, HB.out.drewN _⟩
      · obtain rfl : k = n := by omega
        have HE : Hid (decide (l = r) = true) := hid (by
          apply decide_eq_true
          apply List.ext_getElem (by rw [Hl.out, Hr.out])
          intro i h1 h2
          have := HK.out i (by rw [← Hl.out]; exact h1)
          simpa [h1, h2] using this)
        go_wp2_with fail
        go_ret
        exact ⟨rBool HE.out.symm, HB.out⟩
  · have HE : Hid (decide (l = r) = false) := hid (by
      apply decide_eq_false
      intro e
      exact hnm (by rw [← Hl.out, ← Hr.out, e]))
    have h1 : ¬ ((n : Int) = (m : Int)) := by omega
    go_enter Try.func17, Try.ntmps17
    go_wp2
    go_ret
    exact ⟨rBool HE.out.symm, Q.out⟩
theorem rd_rowI {w : World} {b : Nat} {z : List Int} {n : Nat} (h : Ob w b 3 (rowV .i64 z)) (hz : z.length = n) (hw : ∀ x ∈ z, (Lit.int .i64 x).wf = true) : Rd .i64 w (some ⟨b, 0, none⟩) n z := by
  have := h.part hw 0 n (by omega)
  rw [List.drop_zero, List.take_of_length_le (by omega)] at this
  exact this
/-- A wheel that was made since the world w0. -/
structure WX (w0 w : World) (g : Nat) (vs : List Value) (L : List Tm) : Prop where
  v : WV w g vs L
  o : Only [] w0 w
  lo : w0.heap.size ≤ g
  bl : ∀ b, b ∈ blocks vs → w0.heap.size ≤ b
theorem WX.only_nil {w0 w w' : World} {g : Nat} {vs : List Value} {L : List Tm} (h : WX w0 w g vs L) (o : Only [] w w') : WX w0 w' g vs L := ⟨h.v.only_nil o, h.o.trans o, h.lo, h.bl⟩
theorem newX (w : World) : WX w (w.alloc (.cells newC 27)) w.heap.size vs0 [] := ⟨newW w, (Only.refl _ _).alloc _, Nat.le_refl _, fun b hb => absurd hb (vs0_blocks b)⟩
theorem WX.next {w0 w w' : World} {g : Nat} {vs : List Value} {L L' : List Tm} (h : WX w0 w g vs L) (n : WNext w g vs L' w') : ∃ vs', WX w0 w' g vs' L' := by
  obtain ⟨vs', h1, h2, h3⟩ := n
  refine ⟨vs', h1, ?_, h.lo, fun b hb => ?_⟩
  · refine h.o.fresh h3 (fun i hi => .inr ?_)
    rcases List.mem_cons.1 hi with e | e
    · rw [e]; exact h.lo
    · exact h.bl i e
  · rcases h2 b hb with e | e
    · exact h.bl b e
    · exact Nat.le_trans h.o.size e
theorem setX (w0 w : World) (g : Nat) (vs : List Value) (L : List Tm) (key a : Int) (h : WX w0 w g vs L) : Calls Try.prog 12 #[.pointer (some ⟨g, 0, none⟩), .int .i64 key, .int .i64 a] w fun x w' => x = .returned (.int .i64 (setE L key a)) ∧ ∃ vs', WX w0 w' g vs' (setS L key a) :=
  (setL w g vs L key a h.v).mono fun x w' ⟨e, n⟩ => ⟨e, h.next n⟩
/-- What Due hands out: the keys of what is due, in their order, in a row that nobody else has. -/
def DueR (w0 : World) (g : Nat) (L : List Tm) (now : Int) (x : Ending) (w' : World) : Prop := ∃ (E : List Tm) (b : Nat) (vs' : List Value), x = .returned (.slice (some ⟨b, 0, none⟩) E.length E.length) ∧ E.Perm (dues L now) ∧ (E.Pairwise fun x y => tlt y x = false) ∧ w0.heap.size ≤ b ∧ Ob w' b 3 (rowV .i64 (keys E)) ∧ WX w0 w' g vs' (lates L now) ∧ b ≠ g ∧ b ∉ blocks vs'
theorem dueX (w0 w : World) (g : Nat) (vs : List Value) (L : List Tm) (now : Int) (h : WX w0 w g vs L) : Calls Try.prog 13 #[.pointer (some ⟨g, 0, none⟩), .int .i64 now] w (DueR w0 g L now) :=
  (dueL w g vs L now h.v).mono fun x w' ⟨E, b, e, h1, h2, h3, h4, vs', h5, h6, h7⟩ => ⟨E, b, vs', e, h1, h2, Nat.le_trans h.o.size h3, h4, ⟨h5, h.o.fresh h7 (fun i hi => .inr (by rw [show i = g from by simpa using hi]; exact h.lo)), h.lo, fun c hc => (h6 c hc).1.elim (h.bl c) (Nat.le_trans h.o.size)⟩, fun e => by have := h.v.r.ob.lt; omega, fun hc => (h6 b hc).2 rfl⟩
/-- Timers of unlike keys, none behind a greater one, are sorted. -/
theorem srt_of {E : List Tm} (hk : (keys E).Nodup) (hs : E.Pairwise fun x y => tlt y x = false) : Srt E := by
  have h1 : E.Pairwise fun x y => x.k ≠ y.k := by unfold keys at hk; exact List.pairwise_map.1 hk
  refine (List.Pairwise.and h1 hs).imp ?_
  rintro x y ⟨h2, h3⟩
  rw [tlt_iff]
  have h4 : ¬ (y.a < x.a ∨ y.a = x.a ∧ y.k < x.k) := by rw [← tlt_iff]; simpa using h3
  omega
theorem keys_perm {E D : List Tm} (h : E.Perm D) (hk : (keys D).Nodup) : (keys E).Nodup := (h.map Tm.k).nodup_iff.2 hk
theorem due_det {E D F : List Tm} (h : E.Perm D) (hk : (keys D).Nodup) (hs : E.Pairwise fun x y => tlt y x = false) (hF : Srt F) (hp : F.Perm D) : E = F := srt_unique E F (srt_of (keys_perm h hk) hs) hF (h.trans hp.symm)
theorem perm_one {E : List Tm} {t : Tm} (h : E.Perm [t]) : E = [t] := List.perm_singleton.1 h
theorem setE_ok {L : List Tm} {key a : Int} (h0 : 0 ≤ a) (h1 : a ≤ 1099511627776) (h : L.length < 256) : setE L key a = 0 := by
  unfold setE; rw [if_neg (by omega), if_neg (by omega)]
theorem setS_ok {L : List Tm} {key a : Int} (h : setE L key a = 0) : setS L key a = rm L key ++ [⟨key, a⟩] := by unfold setS; rw [if_pos h]
theorem known1 (w : World) : Calls Try.prog 11 #[] w fun x w' => x = .returned (.bool true) ∧ Only [] w w' := by
  have H0 := hid (newX w)
  have hz := zeroW
  have e1 : Hid (setE [] 5 10 = 0) := hid (by rfl)
  have s1 : Hid (setS [] 5 10 = [⟨5, 10⟩]) := hid (by rfl)
  have e2 : Hid (setE [⟨5, 10⟩] 3 10 = 0) := hid (by rfl)
  have s2 : Hid (setS [⟨5, 10⟩] 3 10 = [⟨5, 10⟩, ⟨3, 10⟩]) := hid (by rfl)
  have HD : Hid (∀ E : List Tm, E.Perm (dues [⟨5, 10⟩, ⟨3, 10⟩] 10) → (E.Pairwise fun x y => tlt y x = false) → E = [⟨3, 10⟩, ⟨5, 10⟩]) := hid (by
    intro E hp hs
    have hp : E.Perm [⟨5, 10⟩, ⟨3, 10⟩] := hp
    exact due_det hp (by decide) hs (by unfold Srt; decide) (List.Perm.swap _ _ _))
  go_enter Try.func11, Try.ntmps11
  go_wp2_with fail
  refine (setX w _ _ _ _ 5 10 H0.out).mono ?_
  rintro x w1 ⟨rfl, vs1, h1⟩
  rw [s1.out] at h1
  rw [e1.out]
  have H1 := hid h1; clear h1
  go_wp2_with fail
  refine (setX w _ _ _ _ 3 10 H1.out).mono ?_
  rintro x w2 ⟨rfl, vs2, h2⟩
  rw [s2.out] at h2
  rw [e2.out]
  have H2 := hid h2; clear h2
  go_wp2_with fail
  refine (dueX w _ _ _ _ 10 H2.out).mono ?_
  rintro x w3 ⟨E, b, vs3, rfl, hp, hs, hb, ho, h3, hbg, hbb⟩
  obtain rfl := HD.out E hp hs
  have HO := hid ho; have H3 := hid h3
  clear hp hs ho h3 hb hbg hbb
  have HRd : Hid (Rd .i64 w3 (some ⟨b, 0, none⟩) 2 [3, 5]) := hid (rd_rowI HO.out rfl (by decide))
  have OB : Hid (Ob (w3.alloc (.cells #[.int .i64 3, .int .i64 5] 3)) w3.heap.size 3 (rowV .i64 [3, 5])) := hid (Ob.new _ _ _)
  have HR2 : Hid (Rd .i64 (w3.alloc (.cells #[.int .i64 3, .int .i64 5] 3)) (some ⟨w3.heap.size, 0, none⟩) 2 [3, 5]) := hid (rd_rowI OB.out rfl (by decide))
  have HR1 : Hid (Rd .i64 (w3.alloc (.cells #[.int .i64 3, .int .i64 5] 3)) (some ⟨b, 0, none⟩) 2 [3, 5]) := hid (HRd.out.only_nil ((Only.refl [] w3).alloc _))
  have H4 := hid (H3.out.only_nil ((Only.refl [] w3).alloc (.cells #[.int .i64 3, .int .i64 5] 3)))
  go_wp2_with fail
  refine (ints1 _ _ _ 2 2 2 2 _ _ HR1.out HR2.out (by omega)).mono ?_
  rintro x w4 ⟨rfl, o4⟩
  have H5 := hid (H4.out.only_nil o4); clear o4
  go_wp2_with fail
  go_ret
  exact ⟨rBool (by simp), H5.out.o⟩
end Go.Proofs.Ytnachendenodkaa.whl
