/-
  Chapter 7 (frag): a header's length, the options that all pieces have, a packet cloned, by a walk of each text. Conditions: none but those typed.
-/
import Derived.Test.YtngaolagifgfjaaIfE
import Derived.Test.YtngaolagifgfjaaSrw
import Derived.Test.YtngaolagifgfjaaStc
namespace Go.Proofs.Ytngaolagifgfjaa.ip
set_option linter.unusedVariables false
set_option linter.unusedSimpArgs false
open Go.ChangeShapes Go.WideShapes Go.ChangeAt Go.RowKit Go.IntWalk Go.Lib
theorem fhead1 (w : World) (oA : Option Addr) (on oc : Nat) (hn : on ≤ 100000) : Calls Try.prog 28 #[.slice oA on oc] w fun x w' => x = .returned (.int .i64 (hl on : Nat)) ∧ w' = w := by
  have HE : Hid ((20 : Int) + ((on : Int) + 3) / 4 * 4 = (hl on : Nat)) := hid (by unfold hl; omega)
  go_enter Try.func28, Try.ntmps28
  go_wp2
  go_ret
  exact ⟨rInt (by rw [← HE.out]), rfl⟩
/-- Whole options, one behind another. -/
def Pre (u : List Int) : Prop := ∀ r, Ofs r true → Ofs (u ++ r) true
theorem Pre.nil : Pre [] := fun r h => h
theorem Pre.more {u b : List Int} (h : Pre u) (k n : Int) (h0 : k ≠ 0) (h1 : k ≠ 1) (hn : n = (b.length : Int) + 2) : Pre (u ++ (k :: n :: b)) := fun r hr => by
  rw [List.append_assoc]
  refine h _ ?_
  show Ofs (k :: n :: (b ++ r)) true
  refine Ofs.more k n (b ++ r) true h0 h1 (by omega) (by rw [List.length_append]; omega) ?_
  have : n.toNat - 2 = b.length := by omega
  rw [this, List.drop_append_of_le_length (Nat.le_refl _), List.drop_length]
  exact hr
def CopE (n : Nat) (w : World) (x : Ending) (w' : World) : Prop := ∃ v u, x = .returned v ∧ Own .u8 5 w' w.heap.size v u ∧ Ofs u true ∧ u.length ≤ n ∧ Only [] w w'
set_option maxRecDepth 100000 in
set_option maxHeartbeats 4000000 in
theorem copied1 (w : World) (A : Option Addr) (n c : Nat) (l : List Int) (hl : Rd .u8 w A n l) (hnc : n ≤ c) (hcm : c ≤ maxLen) (hn : n ≤ 100000) (hr : Ofs l true) :
    Calls Try.prog 30 #[.slice A n c] w (CopE n w) := by
  have HL := hid hl; have hll := hl.len; have HLen := hid hl.len
  have HWf := hid hl.wf
  have hcc : c ≤ 9223372036854775807 := by simp only [maxLen] at hcm; omega
  clear hl hcm
  go_enter Try.func30, Try.ntmps30
  go_wp2_with fail
  go_loopw [3, 4, 5] (fun g i m wr => ∃ (k : Nat) (v : Value) (u : List Int), v = g ∧ k ≤ n ∧ i = .int .i64 k ∧ Hid (Ofs (l.drop k) true) ∧ Hid (Own .u8 5 wr w.heap.size v u) ∧ Hid (Pre u) ∧ u.length ≤ k ∧ Hid (Only [] w wr)) (fun _ i _ _ => n - (RowKit.intOf i).toNat)
  case atStart => exact ⟨0, _, [], rfl, by omega, rfl, hid (by simpa using hr), hid (Own.nil _ _ _ _), hid Pre.nil, by simp, hid (Only.refl [] w)⟩
  case round =>
    clear hr
    obtain ⟨k, v, u, rfl, hk, rfl, HR, HV, HP, huk, HB⟩ := hrel
    rcases HR.out.inv with ⟨hd, hb0⟩ | ⟨r, hd, hb0⟩ | ⟨r, hd, hr⟩ | ⟨a, hd, h0, h1, hb⟩ | ⟨a, b, r, hd, h0, h1, h2, hb⟩ | ⟨a, b, r, hd, h0, h1, h2, h3, hb⟩ | ⟨a, b, r, hd, h0, h1, h2, h3, hr⟩
    · have hkn : k = n := by have h := congrArg List.length hd; simp at h; omega
      have hlt : ¬ (k : Int) < (n : Int) := by omega
      have HU : Hid (Ofs u true) := hid (by have := HP.out [] .nil; rwa [List.append_nil] at this)
      clear hd HR hkn hb0
      go_wp2_with fail
      go_ret
      exact ⟨_, _, rfl, HV.out, HU.out, by omega, HB.out⟩
    · obtain ⟨l0, g0, t0, z0⟩ := drop_cons hd
      obtain ⟨bk, off, rfl, hbk, hc⟩ := (HL.out.only_nil HB.out).at_ (by omega)
      have c0 := hc k (by omega); rw [g0] at c0
      have hlt : (k : Int) < (n : Int) := by omega
      have HU : Hid (Ofs u true) := hid (by have := HP.out [] .nil; rwa [List.append_nil] at this)
      clear hc hd HR t0 z0 l0 g0 hb0
      go_wp2_with fail
      go_ret
      exact ⟨_, _, rfl, HV.out, HU.out, by omega, HB.out⟩
    · obtain ⟨l0, g0, t0, z0⟩ := drop_cons hd
      obtain ⟨bk, off, rfl, hbk, hc⟩ := (HL.out.only_nil HB.out).at_ (by omega)
      have c0 := hc k (by omega); rw [g0] at c0
      have hlt : (k : Int) < (n : Int) := by omega
      have HT : Hid (Ofs (l.drop (k + 1)) true) := hid (by rw [t0]; exact hr)
      have hz1 : k + 1 ≤ n := by omega
      clear hc hd HR t0 z0 l0 g0 hr
      go_wp2_with fail
      go_roundw
      case rel => exact ⟨k + 1, v, u, rfl, hz1, by first | rfl | go_num, HT, HV, HP, by omega, HB⟩
      case measure => simp [RowKit.intOf]; omega
    · cases hb
    · cases hb
    · cases hb
    · obtain ⟨l0, g0, t0, z0⟩ := drop_cons hd
      obtain ⟨l1, g1, t1, z1⟩ := drop_cons t0
      obtain ⟨bk, off, rfl, hbk, hc⟩ := (HL.out.only_nil HB.out).at_ (by omega)
      have c0 := hc k (by omega); rw [g0] at c0
      have c1 := hc (k + 1) (by omega); rw [g1] at c1
      have hlt : (k : Int) < (n : Int) := by omega
      obtain ⟨m, hm⟩ : ∃ m : Nat, b = (m : Int) := ⟨b.toNat, by omega⟩
      subst hm
      have hm2 : 2 ≤ m := by omega
      have hkm : k + m ≤ n := by omega
      have HT : Hid (Ofs (l.drop (k + m)) true) := hid (by
        have e1 : l.drop (k + m) = r.drop (m - 2) := by
          have e2 : (l.drop k).drop m = l.drop (k + m) := by rw [List.drop_drop]
          rw [← e2, hd, show m = (m - 2) + 2 from by omega]
          rfl
        rw [e1]
        simpa using hr)
      have HSeg : Hid ((l.drop k).take m = a :: (m : Int) :: r.take (m - 2)) := hid (by
        rw [hd, show m = (m - 2) + 2 from by omega]
        show a :: _ :: r.take (m - 2) = _
        simp)
      have hrl : (r.take (m - 2)).length = m - 2 := by rw [List.length_take]; omega
      have HRl := hid hrl
      have ha0 : (a == 1) = false := by simpa using h1
      have ha9 : (a == 0) = false := by simpa using h0
      have hz0 : ((k : Int) + 1) = ((k + 1 : Nat) : Int) := by omega
      clear hc hd HR t0 z0 l0 g0 l1 g1 t1 z1 hr hrl hz0
      by_cases h128 : 128 ≤ a
      · have HSl : Hid (Rd .u8 wr (some ⟨bk, off + k, none⟩) m ((l.drop k).take m)) := hid (by
          have h9 := ((HL.out.only_nil HB.out).drop k hk).take m (by omega)
          exact h9)
        have HP2 : Hid (Pre (u ++ (l.drop k).take m)) := hid (by rw [HSeg.out]; exact HP.out.more a m h0 h1 (by rw [HRl.out]; omega))
        have hsl2 : (u ++ (l.drop k).take m).length = u.length + m := by rw [List.length_append, List.length_take, List.length_drop]; omega
        have HSl2 := hid hsl2
        have g3 : (k : Int) ≤ (k : Int) + (m : Int) := by omega
        have g4 : (k : Int) + (m : Int) ≤ (c : Int) := by omega
        have g5 : ¬ (c : Int) = (k : Int) := by omega
        have g6 : ((k : Int) + (m : Int)).toNat - k = m := by omega
        clear hsl2
        go_wp2_with (at_builtin; refine wpList_app _ rfl (.tmp 33) (.tmp 39) _ rfl wrt.elemB w.heap.size v u rfl HV.out (some ⟨bk, off + k, none⟩) m (c - k) ((l.drop k).take m) rfl HSl.out (by intro e; cases e) (by omega) (by unfold maxLen; omega) HB.out.size ?_)
        intro v5 w5 hv5 hg5 hb5
        have HV5 := hid hv5
        have HB5 := hid (HB.out.own_grown HV.out hg5 (Nat.le_refl _))
        clear hv5 hg5 hb5 c0 c1
        go_wp2_with fail
        go_roundw
        case rel => exact ⟨k + m, v5, _, rfl, hkm, by first | rfl | go_num, HT, HV5, HP2, by rw [HSl2.out]; omega, HB5⟩
        case measure => simp [RowKit.intOf]; omega
      · have h128b : decide ((128 : Int) ≤ a) = false := decide_eq_false h128
        have h128c : a < 128 := by omega
        go_wp2_with fail
        go_roundw
        case rel => exact ⟨k + m, v, u, rfl, hkm, by first | rfl | go_num, HT, HV, HP, by omega, HB⟩
        case measure => simp [RowKit.intOf]; omega
end Go.Proofs.Ytngaolagifgfjaa.ip
