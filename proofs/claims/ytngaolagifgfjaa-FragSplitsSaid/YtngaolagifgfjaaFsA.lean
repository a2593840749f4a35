/-
  Chapter 7 (frag): the options that are copied, exactly, of the program and of the document, by a walk of each text. Conditions: none but those typed.
-/
import Derived.Test.YtngaolagifgfjaaFrA
namespace Go.Proofs.Ytngaolagifgfjaa.ip
set_option linter.unusedVariables false
set_option linter.unusedSimpArgs false
open Go.ChangeShapes Go.WideShapes Go.ChangeAt Go.RowKit Go.IntWalk Go.Lib
/-- The second row holds the copied options of the first. -/
inductive CpR : List Int → List Int → Prop
  | nil : CpR [] []
  | z (r : List Int) : CpR (0 :: r) []
  | one (r u : List Int) : CpR r u → CpR (1 :: r) u
  | low (a : Int) (m : Nat) (r u : List Int) : a ≠ 0 → a ≠ 1 → a < 128 → 2 ≤ m → CpR (r.drop (m - 2)) u → CpR (a :: (m : Int) :: r) u
  | hi (a : Int) (m : Nat) (r u : List Int) : a ≠ 0 → a ≠ 1 → 128 ≤ a → 2 ≤ m → CpR (r.drop (m - 2)) u → CpR (a :: (m : Int) :: r) (a :: (m : Int) :: r.take (m - 2) ++ u)
theorem CpR.uniq {l u : List Int} (h : CpR l u) : ∀ {v : List Int}, CpR l v → u = v := by
  induction h with
  | nil => intro v k; cases k; rfl
  | z r => intro v k; generalize e : (0 :: r : List Int) = l0 at k; cases k with
    | nil => rfl
    | z => rfl
    | one => simp at e
    | low a m r' u h0 => exact absurd (by simp at e; exact e.1.symm) h0
    | hi a m r' u h0 => exact absurd (by simp at e; exact e.1.symm) h0
  | one r u _ ih => intro v k; generalize e : (1 :: r : List Int) = l0 at k; cases k with
    | nil => simp at e
    | z => simp at e
    | one r' u' k => simp at e; subst e; exact ih k
    | low a m r' u h0 h1 => exact absurd (by simp at e; exact e.1.symm) h1
    | hi a m r' u h0 h1 => exact absurd (by simp at e; exact e.1.symm) h1
  | low a m r u h0 h1 h2 h3 _ ih => intro v k; generalize e : (a :: (m : Int) :: r : List Int) = l0 at k; cases k with
    | nil => simp at e
    | z => exact absurd (by simp at e; exact e.1) h0
    | one => exact absurd (by simp at e; exact e.1) h1
    | low a' m' r' u' g0 g1 g2 g3 k => obtain ⟨rfl, e1, rfl⟩ : a = a' ∧ m = m' ∧ r = r' := by simp at e; exact ⟨e.1, by omega, e.2.2⟩
                                       subst e1; exact ih k
    | hi a' m' r' u' g0 g1 g2 g3 k => exact absurd (by simp at e; exact e.1) (show ¬ a = a' by omega)
  | hi a m r u h0 h1 h2 h3 _ ih => intro v k; generalize e : (a :: (m : Int) :: r : List Int) = l0 at k; cases k with
    | nil => simp at e
    | z => exact absurd (by simp at e; exact e.1) h0
    | one => exact absurd (by simp at e; exact e.1) h1
    | low a' m' r' u' g0 g1 g2 g3 k => exact absurd (by simp at e; exact e.1) (show ¬ a = a' by omega)
    | hi a' m' r' u' g0 g1 g2 g3 k => obtain ⟨rfl, e1, rfl⟩ : a = a' ∧ m = m' ∧ r = r' := by simp at e; exact ⟨e.1, by omega, e.2.2⟩
                                      subst e1; rw [ih k]
/-- What was copied of the first k bytes. -/
def CpP (l : List Int) (k : Nat) (u : List Int) : Prop := ∀ r, CpR (l.drop k) r → CpR l (u ++ r)
theorem CpP.nil (l : List Int) : CpP l 0 [] := fun r h => by simpa using h
theorem CpP.done {l u : List Int} {k : Nat} (h : CpP l k u) (h0 : CpR (l.drop k) []) : CpR l u := by have := h [] h0; rwa [List.append_nil] at this
theorem drop_more {l r : List Int} {a b : Int} {k m : Nat} (hd : l.drop k = a :: b :: r) (hm : 2 ≤ m) : l.drop (k + m) = r.drop (m - 2) := by
  have e2 : (l.drop k).drop m = l.drop (k + m) := by rw [List.drop_drop]
  rw [← e2, hd, show m = (m - 2) + 2 from by omega]
  rfl
theorem CpP.one {l u r : List Int} {k : Nat} (h : CpP l k u) (hd : l.drop k = 1 :: r) : CpP l (k + 1) u := fun r' hr => by
  refine h r' ?_
  rw [hd]
  refine .one r r' ?_
  have e2 : (l.drop k).drop 1 = l.drop (k + 1) := by rw [List.drop_drop]
  rw [hd] at e2
  rw [← e2] at hr
  exact hr
theorem CpP.low {l u r : List Int} {k m : Nat} {a : Int} (h : CpP l k u) (hd : l.drop k = a :: (m : Int) :: r) (h0 : a ≠ 0) (h1 : a ≠ 1) (h2 : a < 128) (hm : 2 ≤ m) : CpP l (k + m) u := fun r' hr => by
  refine h r' ?_
  rw [drop_more hd hm] at hr
  rw [hd]
  exact .low a m r r' h0 h1 h2 hm hr
theorem CpP.hi {l u r : List Int} {k m : Nat} {a : Int} (h : CpP l k u) (hd : l.drop k = a :: (m : Int) :: r) (h0 : a ≠ 0) (h1 : a ≠ 1) (h2 : 128 ≤ a) (hm : 2 ≤ m) : CpP l (k + m) (u ++ (l.drop k).take m) := fun r' hr => by
  rw [drop_more hd hm] at hr
  have e1 : (l.drop k).take m = a :: (m : Int) :: r.take (m - 2) := by
    rw [hd, show m = (m - 2) + 2 from by omega]
    show a :: _ :: r.take (m - 2) = _
    simp
  rw [e1, List.append_assoc]
  refine h _ ?_
  rw [hd]
  exact .hi a m r r' h0 h1 h2 hm hr
def CopX (n : Nat) (l : List Int) (w : World) (x : Ending) (w' : World) : Prop := ∃ v u, x = .returned v ∧ Own .u8 5 w' w.heap.size v u ∧ CpR l u ∧ Ofs u true ∧ u.length ≤ n ∧ Only [] w w'
set_option maxRecDepth 100000 in
set_option maxHeartbeats 4000000 in
theorem copied2 (w : World) (A : Option Addr) (n c : Nat) (l : List Int) (hl : Rd .u8 w A n l) (hnc : n ≤ c) (hcm : c ≤ maxLen) (hn : n ≤ 100000) (hr : Ofs l true) :
    Calls Try.prog 30 #[.slice A n c] w (CopX n l w) := by
  have HL := hid hl; have hll := hl.len; have HLen := hid hl.len
  have HWf := hid hl.wf
  have hcc : c ≤ 9223372036854775807 := by simp only [maxLen] at hcm; omega
  clear hl hcm
  go_enter Try.func30, Try.ntmps30
  go_wp2_with fail
  go_loopw [3, 4, 5] (fun g i m wr => ∃ (k : Nat) (v : Value) (u : List Int), v = g ∧ k ≤ n ∧ i = .int .i64 k ∧ Hid (Ofs (l.drop k) true) ∧ Hid (Own .u8 5 wr w.heap.size v u) ∧ Hid (CpP l k u) ∧ Hid (Pre u) ∧ u.length ≤ k ∧ Hid (Only [] w wr)) (fun _ i _ _ => n - (RowKit.intOf i).toNat)
  case atStart => exact ⟨0, _, [], rfl, by omega, rfl, hid (by simpa using hr), hid (Own.nil _ _ _ _), hid (CpP.nil l), hid Pre.nil, by simp, hid (Only.refl [] w)⟩
  case round =>
    clear hr
    obtain ⟨k, v, u, rfl, hk, rfl, HR, HV, HC, HP, huk, HB⟩ := hrel
    rcases HR.out.inv with ⟨hd, hb0⟩ | ⟨r, hd, hb0⟩ | ⟨r, hd, hr⟩ | ⟨a, hd, h0, h1, hb⟩ | ⟨a, b, r, hd, h0, h1, h2, hb⟩ | ⟨a, b, r, hd, h0, h1, h2, h3, hb⟩ | ⟨a, b, r, hd, h0, h1, h2, h3, hr⟩
    · have hkn : k = n := by have h := congrArg List.length hd; simp at h; omega
      have hlt : ¬ (k : Int) < (n : Int) := by omega
      have HU : Hid (Ofs u true) := hid (by have := HP.out [] .nil; rwa [List.append_nil] at this)
      have HX : Hid (CpR l u) := hid (HC.out.done (by rw [hkn, ← hll, List.drop_length]; exact .nil))
      clear hd HR hkn hb0 HC
      go_wp2_with fail
      go_ret
      exact ⟨_, _, rfl, HV.out, HX.out, HU.out, by omega, HB.out⟩
    · obtain ⟨l0, g0, t0, z0⟩ := drop_cons hd
      obtain ⟨bk, off, rfl, hbk, hc⟩ := (HL.out.only_nil HB.out).at_ (by omega)
      have c0 := hc k (by omega); rw [g0] at c0
      have hlt : (k : Int) < (n : Int) := by omega
      have HU : Hid (Ofs u true) := hid (by have := HP.out [] .nil; rwa [List.append_nil] at this)
      have HX : Hid (CpR l u) := hid (HC.out.done (by rw [hd]; exact .z r))
      clear hc hd HR t0 z0 l0 g0 hb0 HC
      go_wp2_with fail
      go_ret
      exact ⟨_, _, rfl, HV.out, HX.out, HU.out, by omega, HB.out⟩
    · obtain ⟨l0, g0, t0, z0⟩ := drop_cons hd
      obtain ⟨bk, off, rfl, hbk, hc⟩ := (HL.out.only_nil HB.out).at_ (by omega)
      have c0 := hc k (by omega); rw [g0] at c0
      have hlt : (k : Int) < (n : Int) := by omega
      have HT : Hid (Ofs (l.drop (k + 1)) true) := hid (by rw [t0]; exact hr)
      have hz1 : k + 1 ≤ n := by omega
      have HC2 : Hid (CpP l (k + 1) u) := hid (HC.out.one hd)
      clear hc hd HR t0 z0 l0 g0 hr HC
      go_wp2_with fail
      go_roundw
      case rel => exact ⟨k + 1, v, u, rfl, hz1, by first | rfl | go_num, HT, HV, HC2, HP, by omega, HB⟩
      case measure => simp [RowKit.intOf]; omega
    · cases hb
    · cases hb
    · cases hb
    · obtain ⟨l0, g0, t0, z0⟩ := drop_cons hd
      obtain ⟨l1, g1, t1, z1⟩ := drop_cons t0
      obtain ⟨bk, off, rfl, hbk, hc⟩ := (HL.out.only_nil HB.out).at_ (by omega)
      have c0 := hc k (by omega); rw [g0] at c0
      have c1 := hc (k + 1) (by omega); rw [g1] at c1
      have hlt : (k : Int) < (n : Int) := by omega
      obtain ⟨m, hm⟩ : ∃ m : Nat, b = (m : Int) := ⟨b.toNat, by omega⟩
      subst hm
      have hm2 : 2 ≤ m := by omega
      have hkm : k + m ≤ n := by omega
      have HT : Hid (Ofs (l.drop (k + m)) true) := hid (by
        have e1 : l.drop (k + m) = r.drop (m - 2) := by
          have e2 : (l.drop k).drop m = l.drop (k + m) := by rw [List.drop_drop]
          rw [← e2, hd, show m = (m - 2) + 2 from by omega]
          rfl
        rw [e1]
        simpa using hr)
      have HSeg : Hid ((l.drop k).take m = a :: (m : Int) :: r.take (m - 2)) := hid (by
        rw [hd, show m = (m - 2) + 2 from by omega]
        show a :: _ :: r.take (m - 2) = _
        simp)
      have hrl : (r.take (m - 2)).length = m - 2 := by rw [List.length_take]; omega
      have HRl := hid hrl
      have ha0 : (a == 1) = false := by simpa using h1
      have ha9 : (a == 0) = false := by simpa using h0
      have hz0 : ((k : Int) + 1) = ((k + 1 : Nat) : Int) := by omega
      have HCh : Hid (128 ≤ a → CpP l (k + m) (u ++ (l.drop k).take m)) := hid (fun h => HC.out.hi hd h0 h1 h hm2)
      have HCl : Hid (¬ 128 ≤ a → CpP l (k + m) u) := hid (fun h => HC.out.low hd h0 h1 (by omega) hm2)
      clear hc hd HR t0 z0 l0 g0 l1 g1 t1 z1 hr hrl hz0 HC
      by_cases h128 : 128 ≤ a
      · have HSl : Hid (Rd .u8 wr (some ⟨bk, off + k, none⟩) m ((l.drop k).take m)) := hid (by
          have h9 := ((HL.out.only_nil HB.out).drop k hk).take m (by omega)
          exact h9)
        have HP2 : Hid (Pre (u ++ (l.drop k).take m)) := hid (by rw [HSeg.out]; exact HP.out.more a m h0 h1 (by rw [HRl.out]; omega))
        have hsl2 : (u ++ (l.drop k).take m).length = u.length + m := by rw [List.length_append, List.length_take, List.length_drop]; omega
        have HSl2 := hid hsl2
        have g3 : (k : Int) ≤ (k : Int) + (m : Int) := by omega
        have g4 : (k : Int) + (m : Int) ≤ (c : Int) := by omega
        have g5 : ¬ (c : Int) = (k : Int) := by omega
        have g6 : ((k : Int) + (m : Int)).toNat - k = m := by omega
        clear hsl2
        go_wp2_with (at_builtin; refine wpList_app _ rfl (.tmp 33) (.tmp 39) _ rfl wrt.elemB w.heap.size v u rfl HV.out (some ⟨bk, off + k, none⟩) m (c - k) ((l.drop k).take m) rfl HSl.out (by intro e; cases e) (by omega) (by unfold maxLen; omega) HB.out.size ?_)
        intro v5 w5 hv5 hg5 hb5
        have HV5 := hid hv5
        have HB5 := hid (HB.out.own_grown HV.out hg5 (Nat.le_refl _))
        clear hv5 hg5 hb5 c0 c1
        go_wp2_with fail
        go_roundw
        case rel => exact ⟨k + m, v5, _, rfl, hkm, by first | rfl | go_num, HT, HV5, hid (HCh.out h128), HP2, by rw [HSl2.out]; omega, HB5⟩
        case measure => simp [RowKit.intOf]; omega
      · have h128b : decide ((128 : Int) ≤ a) = false := decide_eq_false h128
        have h128c : a < 128 := by omega
        go_wp2_with fail
        go_roundw
        case rel => exact ⟨k + m, v, u, rfl, hkm, by first | rfl | go_num, HT, HV, hid (HCl.out h128), HP, by omega, HB⟩
        case measure => simp [RowKit.intOf]; omega
set_option maxRecDepth 100000 in
set_option maxHeartbeats 4000000 in
theorem dcopied1 (w : World) (A : Option Addr) (n c : Nat) (l : List Int) (hl : Rd .u8 w A n l) (hnc : n ≤ c) (hcm : c ≤ maxLen) (hn : n ≤ 100000) (hr : Ofs l true) :
    Calls Try.prog 33 #[.slice A n c] w (CopX n l w) := by
  have HL := hid hl; have hll := hl.len; have HLen := hid hl.len
  have HWf := hid hl.wf
  have hcc : c ≤ 9223372036854775807 := by simp only [maxLen] at hcm; omega
  clear hl hcm
  go_enter Try.func33, Try.ntmps33
  go_wp2_with fail
  go_loopw [3, 4, 5] (fun g i m wr => ∃ (k : Nat) (v : Value) (u : List Int), v = g ∧ k ≤ n ∧ i = .int .i64 k ∧ Hid (Ofs (l.drop k) true) ∧ Hid (Own .u8 5 wr w.heap.size v u) ∧ Hid (CpP l k u) ∧ Hid (Pre u) ∧ u.length ≤ k ∧ Hid (Only [] w wr)) (fun _ i _ _ => n - (RowKit.intOf i).toNat)
  case atStart => exact ⟨0, _, [], rfl, by omega, rfl, hid (by simpa using hr), hid (Own.nil _ _ _ _), hid (CpP.nil l), hid Pre.nil, by simp, hid (Only.refl [] w)⟩
  case round =>
    clear hr
    obtain ⟨k, v, u, rfl, hk, rfl, HR, HV, HC, HP, huk, HB⟩ := hrel
    rcases HR.out.inv with ⟨hd, hb0⟩ | ⟨r, hd, hb0⟩ | ⟨r, hd, hr⟩ | ⟨a, hd, h0, h1, hb⟩ | ⟨a, b, r, hd, h0, h1, h2, hb⟩ | ⟨a, b, r, hd, h0, h1, h2, h3, hb⟩ | ⟨a, b, r, hd, h0, h1, h2, h3, hr⟩
    · have hkn : k = n := by have h := congrArg List.length hd; simp at h; omega
      have hlt : ¬ (k : Int) < (n : Int) := by omega
      have HU : Hid (Ofs u true) := hid (by have := HP.out [] .nil; rwa [List.append_nil] at this)
      have HX : Hid (CpR l u) := hid (HC.out.done (by rw [hkn, ← hll, List.drop_length]; exact .nil))
      clear hd HR hkn hb0 HC
      go_wp2_with fail
      go_ret
      exact ⟨_, _, rfl, HV.out, HX.out, HU.out, by omega, HB.out⟩
    · obtain ⟨l0, g0, t0, z0⟩ := drop_cons hd
      obtain ⟨bk, off, rfl, hbk, hc⟩ := (HL.out.only_nil HB.out).at_ (by omega)
      have c0 := hc k (by omega); rw [g0] at c0
      have hlt : (k : Int) < (n : Int) := by omega
      have HU : Hid (Ofs u true) := hid (by have := HP.out [] .nil; rwa [List.append_nil] at this)
      have HX : Hid (CpR l u) := hid (HC.out.done (by rw [hd]; exact .z r))
      clear hc hd HR t0 z0 l0 g0 hb0 HC
      go_wp2_with fail
      go_ret
      exact ⟨_, _, rfl, HV.out, HX.out, HU.out, by omega, HB.out⟩
    · obtain ⟨l0, g0, t0, z0⟩ := drop_cons hd
      obtain ⟨bk, off, rfl, hbk, hc⟩ := (HL.out.only_nil HB.out).at_ (by omega)
      have c0 := hc k (by omega); rw [g0] at c0
      have hlt : (k : Int) < (n : Int) := by omega
      have HT : Hid (Ofs (l.drop (k + 1)) true) := hid (by rw [t0]; exact hr)
      have hz1 : k + 1 ≤ n := by omega
      have HC2 : Hid (CpP l (k + 1) u) := hid (HC.out.one hd)
      clear hc hd HR t0 z0 l0 g0 hr HC
      go_wp2_with fail
      go_roundw
      case rel => exact ⟨k + 1, v, u, rfl, hz1, by first | rfl | go_num, HT, HV, HC2, HP, by omega, HB⟩
      case measure => simp [RowKit.intOf]; omega
    · cases hb
    · cases hb
    · cases hb
    · obtain ⟨l0, g0, t0, z0⟩ := drop_cons hd
      obtain ⟨l1, g1, t1, z1⟩ := drop_cons t0
      obtain ⟨bk, off, rfl, hbk, hc⟩ := (HL.out.only_nil HB.out).at_ (by omega)
      have c0 := hc k (by omega); rw [g0] at c0
      have c1 := hc (k + 1) (by omega); rw [g1] at c1
      have hlt : (k : Int) < (n : Int) := by omega
      obtain ⟨m, hm⟩ : ∃ m : Nat, b = (m : Int) := ⟨b.toNat, by omega⟩
      subst hm
      have hm2 : 2 ≤ m := by omega
      have hkm : k + m ≤ n := by omega
      have HT : Hid (Ofs (l.drop (k + m)) true) := hid (by
        have e1 : l.drop (k + m) = r.drop (m - 2) := by
          have e2 : (l.drop k).drop m = l.drop (k + m) := by rw [List.drop_drop]
          rw [← e2, hd, show m = (m - 2) + 2 from by omega]
          rfl
        rw [e1]
        simpa using hr)
      have HSeg : Hid ((l.drop k).take m = a :: (m : Int) :: r.take (m - 2)) := hid (by
        rw [hd, show m = (m - 2) + 2 from by omega]
        show a :: _ :: r.take (m - 2) = _
        simp)
      have hrl : (r.take (m - 2)).length = m - 2 := by rw [List.length_take]; omega
      have HRl := hid hrl
      have ha0 : (a == 1) = false := by simpa using h1
      have ha9 : (a == 0) = false := by simpa using h0
      have hz0 : ((k : Int) + 1) = ((k + 1 : Nat) : Int) := by omega
      have HCh : Hid (128 ≤ a → CpP l (k + m) (u ++ (l.drop k).take m)) := hid (fun h => HC.out.hi hd h0 h1 h hm2)
      have HCl : Hid (¬ 128 ≤ a → CpP l (k + m) u) := hid (fun h => HC.out.low hd h0 h1 (by omega) hm2)
      clear hc hd HR t0 z0 l0 g0 l1 g1 t1 z1 hr hrl hz0 HC
      by_cases h128 : 128 ≤ a
      · have HSl : Hid (Rd .u8 wr (some ⟨bk, off + k, none⟩) m ((l.drop k).take m)) := hid (by
          have h9 := ((HL.out.only_nil HB.out).drop k hk).take m (by omega)
          exact h9)
        have HP2 : Hid (Pre (u ++ (l.drop k).take m)) := hid (by rw [HSeg.out]; exact HP.out.more a m h0 h1 (by rw [HRl.out]; omega))
        have hsl2 : (u ++ (l.drop k).take m).length = u.length + m := by rw [List.length_append, List.length_take, List.length_drop]; omega
        have HSl2 := hid hsl2
        have g3 : (k : Int) ≤ (k : Int) + (m : Int) := by omega
        have g4 : (k : Int) + (m : Int) ≤ (c : Int) := by omega
        have g5 : ¬ (c : Int) = (k : Int) := by omega
        have g6 : ((k : Int) + (m : Int)).toNat - k = m := by omega
        clear hsl2
        go_wp2_with (at_builtin; refine wpList_app _ rfl (.tmp 33) (.tmp 39) _ rfl wrt.elemB w.heap.size v u rfl HV.out (some ⟨bk, off + k, none⟩) m (c - k) ((l.drop k).take m) rfl HSl.out (by intro e; cases e) (by omega) (by unfold maxLen; omega) HB.out.size ?_)
        intro v5 w5 hv5 hg5 hb5
        have HV5 := hid hv5
        have HB5 := hid (HB.out.own_grown HV.out hg5 (Nat.le_refl _))
        clear hv5 hg5 hb5 c0 c1
        go_wp2_with fail
        go_roundw
        case rel => exact ⟨k + m, v5, _, rfl, hkm, by first | rfl | go_num, HT, HV5, hid (HCh.out h128), HP2, by rw [HSl2.out]; omega, HB5⟩
        case measure => simp [RowKit.intOf]; omega
      · have h128b : decide ((128 : Int) ≤ a) = false := decide_eq_false h128
        have h128c : a < 128 := by omega
        go_wp2_with fail
        go_roundw
        case rel => exact ⟨k + m, v, u, rfl, hkm, by first | rfl | go_num, HT, HV, hid (HCl.out h128), HP, by omega, HB⟩
        case measure => simp [RowKit.intOf]; omega
end Go.Proofs.Ytngaolagifgfjaa.ip
