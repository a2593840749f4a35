/-
  Chapter 6 (ipv4): which options are well made, of the code and of the document, by a walk of each text. Conditions: none but those typed.
-/
import Derived.Test.YtngaolagifgfjaaIfA
import Derived.Deep.QuietTactic
namespace Go.Proofs.Ytngaolagifgfjaa.ip
set_option linter.unusedVariables false
set_option linter.unusedSimpArgs false
open Go.ChangeShapes Go.WideShapes Go.ChangeAt Go.RowKit Go.IntWalk Go.Lib
theorem drop_cons {l : List Int} {k : Nat} {a : Int} {t : List Int} (h : l.drop k = a :: t) : k < l.length ∧ l.getD k 0 = a ∧ l.drop (k + 1) = t ∧ l.length = k + 1 + t.length := by
  have hk : k < l.length := by
    rcases Nat.lt_or_ge k l.length with h1 | h1
    · exact h1
    · rw [List.drop_of_length_le h1] at h; cases h
  have hl := congrArg List.length h
  simp at hl
  rw [List.drop_eq_getElem_cons hk] at h
  injection h with h1 h2
  refine ⟨hk, ?_, h2, by omega⟩
  simp [List.getD_eq_getElem?_getD, hk, h1]
theorem Ofs.inv {l : List Int} {b : Bool} (h : Ofs l b) : (l = [] ∧ b = true) ∨ (∃ r, l = 0 :: r ∧ b = decide (∀ z ∈ r, z = 0)) ∨ (∃ r, l = 1 :: r ∧ Ofs r b) ∨ (∃ k, l = [k] ∧ k ≠ 0 ∧ k ≠ 1 ∧ b = false) ∨ (∃ k n r, l = k :: n :: r ∧ k ≠ 0 ∧ k ≠ 1 ∧ n < 2 ∧ b = false)
    ∨ (∃ k n r, l = k :: n :: r ∧ k ≠ 0 ∧ k ≠ 1 ∧ 2 ≤ n ∧ (r.length : Int) + 2 < n ∧ b = false) ∨ (∃ k n r, l = k :: n :: r ∧ k ≠ 0 ∧ k ≠ 1 ∧ 2 ≤ n ∧ n ≤ (r.length : Int) + 2 ∧ Ofs (r.drop (n.toNat - 2)) b) := by
  cases h with
  | nil => exact .inl ⟨rfl, rfl⟩
  | endg r hr => exact .inr (.inl ⟨r, rfl, by simpa using hr⟩)
  | endb r hr => exact .inr (.inl ⟨r, rfl, by simpa using hr⟩)
  | one r b hr => exact .inr (.inr (.inl ⟨r, rfl, hr⟩))
  | short k h0 h1 => exact .inr (.inr (.inr (.inl ⟨k, rfl, h0, h1, rfl⟩)))
  | low k n r h0 h1 h2 => exact .inr (.inr (.inr (.inr (.inl ⟨k, n, r, rfl, h0, h1, h2, rfl⟩))))
  | over k n r h0 h1 h2 h3 => exact .inr (.inr (.inr (.inr (.inr (.inl ⟨k, n, r, rfl, h0, h1, h2, h3, rfl⟩)))))
  | more k n r b h0 h1 h2 h3 hr => exact .inr (.inr (.inr (.inr (.inr (.inr ⟨k, n, r, rfl, h0, h1, h2, h3, hr⟩)))))
theorem nz1 (w : World) (x : Int) : Calls Try.prog 65 #[.int .u8 x] w fun e w' => e = .returned (.bool (x != 0)) ∧ w = w' := by
  go_enter Try.func65, Try.ntmps65
  go_wp2
  go_ret
  exact ⟨rfl, rfl⟩
/-- Where the first byte stands that is none. -/
def FirstNz (l : List Int) (n : Nat) (r : Int) : Prop := (r = -1 ∧ ∀ i, i < n → l.getD i 0 = 0) ∨ ∃ k : Nat, k < n ∧ r = k ∧ l.getD k 0 ≠ 0
set_option maxHeartbeats 1000000 in
theorem idxNz (w : World) (A : Option Addr) (n c : Nat) (l : List Int) (hl : Rd .u8 w A n l) (hn : n ≤ 100000) :
    Calls Try.prog 68 #[.slice A n c, .func (.func 65) #[] #[]] w fun e w' => ∃ r : Int, e = .returned (.int .i64 r) ∧ FirstNz l n r ∧ w = w' := by
  have HL := hid hl; clear hl
  go_enter Try.func68, Try.ntmps68
  go_wp2
  go_loopw [8] (fun i wr => ∃ k : Nat, k ≤ n ∧ i = .int .i64 k ∧ Hid (∀ i, i < k → l.getD i 0 = 0) ∧ wr = w) (fun i _ => n - (intOf i).toNat)
  case atStart => exact ⟨0, by omega, rfl, hid (fun i hi => absurd hi (by omega)), rfl⟩
  case round =>
    obtain ⟨k, hk, rfl, HN, rfl⟩ := hrel
    by_cases hlt : k < n
    · obtain ⟨bk, off, rfl, hbk, hc⟩ := HL.out.at_ (by omega)
      have c0 := hc k hlt
      clear hc
      obtain ⟨z, hz⟩ : ∃ z, z = l.getD k 0 := ⟨_, rfl⟩
      rw [← hz] at c0
      have HZ := hid hz; clear hz
      go_wp2_with fail
      refine (nz1 _ _).mono ?_
      rintro x w2 ⟨rfl, rfl⟩
      clear c0
      by_cases he : z = 0
      · rw [show (z != 0) = false from by simpa using he]
        have HE : Hid (l.getD k 0 = 0) := hid (by rw [← HZ.out]; exact he); clear he
        go_wp2
        go_roundw
        case rel => exact ⟨k + 1, by omega, by go_num, hid (fun i hi => by
          rcases Nat.lt_or_ge i k with h1 | h1
          · exact HN.out i h1
          · obtain rfl : i = k := by omega
            exact HE.out), by trivial⟩
        case measure => simp [intOf]; omega
      · rw [show (z != 0) = true from by simpa using he]
        have HE : Hid (l.getD k 0 ≠ 0) := hid (by rw [← HZ.out]; exact he); clear he
        go_wp2
        go_ret
        exact ⟨_, rfl, .inr ⟨k, hlt, rfl, HE.out⟩, rfl⟩
    · obtain rfl : k = n := by omega
      go_wp2
      go_ret
      exact ⟨_, rfl, .inl ⟨rfl, HN.out⟩, rfl⟩
theorem hasNz (w : World) (A : Option Addr) (n c : Nat) (l : List Int) (hl : Rd .u8 w A n l) (hn : n ≤ 100000) :
    Calls Try.prog 64 #[.slice A n c, .func (.func 65) #[] #[]] w fun e w' => e = .returned (.bool (!decide (∀ z ∈ l, z = 0))) ∧ w = w' := by
  have HLen := hid hl.len
  have HI := hid (idxNz w A n c l hl hn); clear hl
  go_enter Try.func64, Try.ntmps64
  go_wp2_with fail
  refine HI.out.mono ?_
  rintro x w' ⟨r, rfl, hr, rfl⟩
  have HE : Hid (decide (0 ≤ r) = !decide (∀ z ∈ l, z = 0)) := hid (by
    rcases hr with ⟨rfl, h⟩ | ⟨k, hk, rfl, h⟩
    · have e : (∀ z ∈ l, z = 0) := fun z hz => by
        obtain ⟨i, hi, rfl⟩ := List.mem_iff_getElem.1 hz
        have := h i (by rw [← HLen.out]; exact hi)
        simpa [List.getD_eq_getElem?_getD, hi] using this
      rw [decide_eq_true e]; rfl
    · have e : ¬ (∀ z ∈ l, z = 0) := fun h2 => h (by
        have hk2 : k < l.length := by rw [HLen.out]; exact hk
        have := h2 l[k] (List.getElem_mem hk2)
        simpa [List.getD_eq_getElem?_getD, hk2] using this)
      rw [decide_eq_false e]; simp)
  clear hr
  go_wp2
  go_ret
  exact ⟨rBool (by rw [← HE.out]), rfl⟩
set_option maxRecDepth 100000 in
set_option maxHeartbeats 4000000 in
theorem wf1 (w : World) (A : Option Addr) (n c : Nat) (l : List Int) (bb : Bool) (hl : Rd .u8 w A n l) (hnc : n ≤ c) (hcm : c ≤ maxLen) (hn : n ≤ 100000) (hr : Ofs l bb) :
    Calls Try.prog 52 #[.slice A n c] w fun e w' => e = .returned (.bool bb) ∧ w = w' := by
  have HL := hid hl; have hll := hl.len; have HLen := hid hl.len
  have hcc : c ≤ 9223372036854775807 := by simp only [maxLen] at hcm; omega
  clear hl hcm
  go_enter Try.func52, Try.ntmps52
  go_wp2
  go_step3
  go_wp2
  go_step3
  go_wp2
  go_loopw [3, 4] (fun g i wr => ∃ (k : Nat), k ≤ n ∧ g = .bool true ∧ i = .int .i64 k ∧ Hid (Ofs (l.drop k) bb) ∧ wr = w) (fun _ i _ => n - (intOf i).toNat)
  case atStart => exact ⟨0, by omega, rfl, rfl, hid (by simpa using hr), rfl⟩
  case round =>
    clear hr
    obtain ⟨k, hk, rfl, rfl, HR, rfl⟩ := hrel
    rcases HR.out.inv with ⟨hd, rfl⟩ | ⟨r, hd, rfl⟩ | ⟨r, hd, hr⟩ | ⟨a, hd, h0, h1, rfl⟩ | ⟨a, b, r, hd, h0, h1, h2, rfl⟩ | ⟨a, b, r, hd, h0, h1, h2, h3, rfl⟩ | ⟨a, b, r, hd, h0, h1, h2, h3, hr⟩
    · skip
      have hkn : k = n := by have h := congrArg List.length hd; simp at h; omega
      subst hkn
      clear HR hd
      go_wp2
      try rw [Exit.noGoto_ret]
      go_ret
      exact ⟨rfl, rfl⟩
    · skip
      obtain ⟨l0, g0, t0, z0⟩ := drop_cons hd
      have HHd := hid hd
      obtain ⟨bk, off, rfl, hbk, hc⟩ := HL.out.at_ (by omega)
      have c0 := hc k (by omega); rw [g0] at c0
      have hi0 : (k : Int) < n := by omega
      clear hc
      have HB0 : Hid (decide (∀ z ∈ l.drop k, z = 0) = decide (∀ z ∈ r, z = 0)) := hid (by rw [HHd.out]; simp)
      clear HR hd t0
      have hkc : k ≤ c := by omega
      go_wp2_with fail
      refine (hasNz _ _ (n - k) (c - k) (l.drop k) (HL.out.drop k (by omega)) (by omega)).mono ?_
      rintro x w' ⟨rfl, rfl⟩
      rw [HB0.out]
      clear c0
      go_wp2
      try rw [Exit.noGoto_ret]
      go_ret
      exact ⟨rfl, rfl⟩
    · skip
      have hr := hid hr
      obtain ⟨l0, g0, t0, z0⟩ := drop_cons hd
      obtain ⟨bk, off, rfl, hbk, hc⟩ := HL.out.at_ (by omega)
      have c0 := hc k (by omega); rw [g0] at c0
      have hi0 : (k : Int) < n := by omega
      clear hc
      have T0 := hid t0
      clear HR hd t0
      go_wp2
      go_roundw
      case rel => exact ⟨k + 1, by omega, rfl, by go_num, hid (T0.out ▸ hr.out), by trivial⟩
      case measure => simp [intOf]; omega
    · skip
      obtain ⟨l0, g0, t0, z0⟩ := drop_cons hd
      simp at z0
      obtain ⟨bk, off, rfl, hbk, hc⟩ := HL.out.at_ (by omega)
      have c0 := hc k (by omega); rw [g0] at c0
      have hi0 : (k : Int) < n := by omega
      clear hc
      have e0 : (a == 0) = false := by simpa using h0
      have e1 : (a == 1) = false := by simpa using h1
      clear h0 h1
      have e2 : ¬ ((k : Int) + 1 < n) := by omega
      clear HR hd t0
      go_wp2
      try rw [Exit.noGoto_ret]
      go_ret
      exact ⟨rfl, rfl⟩
    · skip
      obtain ⟨l0, g0, t0, z0⟩ := drop_cons hd
      obtain ⟨l1, g1, t1, z1⟩ := drop_cons t0
      obtain ⟨bk, off, rfl, hbk, hc⟩ := HL.out.at_ (by omega)
      have hb := u8Bd (HL.out.getD_wf (k + 1) (by omega))
      rw [g1] at hb
      have c0 := hc k (by omega); rw [g0] at c0
      have hi0 : (k : Int) < n := by omega
      have c1 := hc (k + 1) (by omega); rw [g1] at c1
      have hi1 : (k + 1 : Int) < n := by omega
      clear hc
      have e0 : (a == 0) = false := by simpa using h0
      have e1 : (a == 1) = false := by simpa using h1
      clear h0 h1
      clear HR hd t0 t1
      go_wp2
      try rw [Exit.noGoto_ret]
      go_ret
      exact ⟨rfl, rfl⟩
    · skip
      obtain ⟨l0, g0, t0, z0⟩ := drop_cons hd
      obtain ⟨l1, g1, t1, z1⟩ := drop_cons t0
      obtain ⟨bk, off, rfl, hbk, hc⟩ := HL.out.at_ (by omega)
      have hb := u8Bd (HL.out.getD_wf (k + 1) (by omega))
      rw [g1] at hb
      have c0 := hc k (by omega); rw [g0] at c0
      have hi0 : (k : Int) < n := by omega
      have c1 := hc (k + 1) (by omega); rw [g1] at c1
      have hi1 : (k + 1 : Int) < n := by omega
      clear hc
      have e0 : (a == 0) = false := by simpa using h0
      have e1 : (a == 1) = false := by simpa using h1
      clear h0 h1
      have e3 : (n : Int) < k + b := by omega
      clear HR hd t0 t1
      go_wp2
      try rw [Exit.noGoto_ret]
      go_ret
      exact ⟨rfl, rfl⟩
    · skip
      have hr := hid hr
      obtain ⟨l0, g0, t0, z0⟩ := drop_cons hd
      obtain ⟨l1, g1, t1, z1⟩ := drop_cons t0
      obtain ⟨bk, off, rfl, hbk, hc⟩ := HL.out.at_ (by omega)
      have hb := u8Bd (HL.out.getD_wf (k + 1) (by omega))
      rw [g1] at hb
      obtain ⟨N, rfl⟩ : ∃ N : Nat, b = N := ⟨b.toNat, by omega⟩
      have hnn : (k : Int) + N ≤ n := by omega
      have c0 := hc k (by omega); rw [g0] at c0
      have hi0 : (k : Int) < n := by omega
      have c1 := hc (k + 1) (by omega); rw [g1] at c1
      have hi1 : (k + 1 : Int) < n := by omega
      clear hc
      have e0 : (a == 0) = false := by simpa using h0
      have e1 : (a == 1) = false := by simpa using h1
      clear h0 h1
      have HT : Hid (l.drop (k + N) = r.drop (N - 2)) := hid (by rw [← t1, List.drop_drop]; congr 1; omega)
      clear HR hd t0 t1
      go_wp2
      go_roundw
      case rel => exact ⟨k + N, by omega, rfl, by go_num, hid (by rw [HT.out]; simpa using hr.out), by trivial⟩
      case measure => simp [intOf]; omega
set_option maxRecDepth 100000 in
set_option maxHeartbeats 4000000 in
theorem op1 (w : World) (A : Option Addr) (n c : Nat) (l : List Int) (bb : Bool) (hl : Rd .u8 w A n l) (hnc : n ≤ c) (hcm : c ≤ maxLen) (hn : n ≤ 100000) (hr : Ofs l bb) :
    Calls Try.prog 51 #[.slice A n c] w fun e w' => e = .returned (.bool bb) ∧ w = w' := by
  have HL := hid hl; have hll := hl.len; have HLen := hid hl.len
  have hcc : c ≤ 9223372036854775807 := by simp only [maxLen] at hcm; omega
  clear hl hcm
  go_enter Try.func51, Try.ntmps51
  go_wp2
  go_loopw [3] (fun i wr => ∃ (k : Nat), k ≤ n ∧ i = .int .i64 k ∧ Hid (Ofs (l.drop k) bb) ∧ wr = w) (fun i _ => n - (intOf i).toNat)
  case atStart => exact ⟨0, by omega, rfl, hid (by simpa using hr), rfl⟩
  case round =>
    clear hr
    obtain ⟨k, hk, rfl, HR, rfl⟩ := hrel
    rcases HR.out.inv with ⟨hd, rfl⟩ | ⟨r, hd, rfl⟩ | ⟨r, hd, hr⟩ | ⟨a, hd, h0, h1, rfl⟩ | ⟨a, b, r, hd, h0, h1, h2, rfl⟩ | ⟨a, b, r, hd, h0, h1, h2, h3, rfl⟩ | ⟨a, b, r, hd, h0, h1, h2, h3, hr⟩
    · skip
      have hkn : k = n := by have h := congrArg List.length hd; simp at h; omega
      subst hkn
      clear HR hd
      go_wp2
      try rw [Exit.noGoto_ret]
      go_ret
      exact ⟨rfl, rfl⟩
    · skip
      obtain ⟨l0, g0, t0, z0⟩ := drop_cons hd
      have HHd := hid hd
      obtain ⟨bk, off, eA, hbk, hc⟩ := HL.out.at_ (by omega)
      clear HR hd t0
      subst eA
      have c0 := hc k (by omega); rw [g0] at c0
      have hi0 : (k : Int) < n := by omega
      clear hc
      have HLk : Hid (∀ i, k ≤ i → i < n → (l.getD i 0 = 0 ↔ (i = k ∨ r.getD (i - (k + 1)) 0 = 0))) := hid (by
        intro i h1 h2
        rcases Nat.lt_or_ge k i with h3 | h3
        · have e : l.getD i 0 = (l.drop k).getD (i - k) 0 := by simp [List.getD_eq_getElem?_getD]; congr 2; omega
          rw [e, HHd.out, show i - k = (i - (k + 1)) + 1 from by omega, List.getD_cons_succ]
          constructor
          · exact .inr
          · intro h4; rcases h4 with h4 | h4
            · omega
            · exact h4
        · obtain rfl : i = k := by omega
          constructor
          · intro _; exact .inl rfl
          · intro _; exact g0)
      have HRL : Hid (n = k + 1 + r.length) := hid (by rw [← HLen.out]; exact z0)
      clear z0 g0
      go_wp2
      go_loopw [4] (fun i w2 => ∃ m : Nat, k ≤ m ∧ m ≤ n ∧ i = .int .i64 m ∧ Hid (∀ i, k ≤ i → i < m → l.getD i 0 = 0) ∧ w2 = wr) (fun i _ => n - (intOf i).toNat)
      case atStart => exact ⟨k, by omega, by omega, rfl, hid (fun i h1 h2 => by omega), by trivial⟩
      case round =>
        obtain ⟨m, hkm, hmn, rfl, HZ, rfl⟩ := hrel
        by_cases hlt : m < n
        · obtain ⟨bk', off', e', hbk', hc⟩ := HL.out.at_ (by omega)
          injection e' with e'; injection e' with e1 e2
          subst e1 e2
          clear c0
          have c1 := hc m hlt
          clear hc
          obtain ⟨z, hz⟩ : ∃ z, z = l.getD m 0 := ⟨_, rfl⟩
          rw [← hz] at c1
          have HZZ := hid hz; clear hz
          by_cases he : z = 0
          · have d1 : (z != 0) = false := by simpa using he
            have HE : Hid (l.getD m 0 = 0) := hid (by rw [← HZZ.out]; exact he); clear he
            go_wp2
            go_roundw
            case rel => exact ⟨m + 1, by omega, by omega, by go_num, hid (fun i h1 h2 => by
              rcases Nat.lt_or_ge i m with h3 | h3
              · exact HZ.out i h1 h3
              · obtain rfl : i = m := by omega
                exact HE.out), by trivial⟩
            case measure => simp [intOf]; omega
          · have d1 : (z != 0) = true := by simpa using he
            have HF : Hid (decide (∀ z ∈ r, z = 0) = false) := hid (decide_eq_false (fun h => he (by rw [HZZ.out]; exact (HLk.out m hkm hlt).2 (by
              rcases Nat.lt_or_ge k m with h3 | h3
              · right
                have hm2 : m - (k + 1) < r.length := by have := HRL.out; omega
                have := h r[m - (k + 1)] (List.getElem_mem hm2)
                simpa [List.getD_eq_getElem?_getD, hm2] using this
              · left; omega))))
            clear he
            go_wp2
            go_ret
            exact ⟨rBool HF.out.symm, rfl⟩
        · obtain rfl : m = n := by omega
          have HF : Hid (decide (∀ z ∈ r, z = 0) = true) := hid (decide_eq_true (fun z hz => by
            obtain ⟨i, hi, rfl⟩ := List.mem_iff_getElem.1 hz
            have hil : k + 1 + i < m := by have := HRL.out; omega
            have h1 := (HLk.out (k + 1 + i) (by omega) hil).1 (HZ.out _ (by omega) hil)
            rcases h1 with h1 | h1
            · omega
            · rw [show k + 1 + i - (k + 1) = i from by omega] at h1
              simpa [List.getD_eq_getElem?_getD, hi] using h1))
          clear c0
          go_wp2
          go_ret
          exact ⟨rBool HF.out.symm, rfl⟩
    · skip
      have hr := hid hr
      obtain ⟨l0, g0, t0, z0⟩ := drop_cons hd
      obtain ⟨bk, off, rfl, hbk, hc⟩ := HL.out.at_ (by omega)
      have c0 := hc k (by omega); rw [g0] at c0
      have hi0 : (k : Int) < n := by omega
      clear hc
      have T0 := hid t0
      clear HR hd t0
      go_wp2
      go_roundw
      case rel => exact ⟨k + 1, by omega, by go_num, hid (T0.out ▸ hr.out), by trivial⟩
      case measure => simp [intOf]; omega
    · skip
      obtain ⟨l0, g0, t0, z0⟩ := drop_cons hd
      simp at z0
      obtain ⟨bk, off, rfl, hbk, hc⟩ := HL.out.at_ (by omega)
      have c0 := hc k (by omega); rw [g0] at c0
      have hi0 : (k : Int) < n := by omega
      clear hc
      have e0 : (a == 0) = false := by simpa using h0
      have e1 : (a == 1) = false := by simpa using h1
      clear h0 h1
      have e2 : ¬ ((k : Int) + 1 < n) := by omega
      clear HR hd t0
      go_wp2
      try rw [Exit.noGoto_ret]
      go_ret
      exact ⟨rfl, rfl⟩
    · skip
      obtain ⟨l0, g0, t0, z0⟩ := drop_cons hd
      obtain ⟨l1, g1, t1, z1⟩ := drop_cons t0
      obtain ⟨bk, off, rfl, hbk, hc⟩ := HL.out.at_ (by omega)
      have hb := u8Bd (HL.out.getD_wf (k + 1) (by omega))
      rw [g1] at hb
      have c0 := hc k (by omega); rw [g0] at c0
      have hi0 : (k : Int) < n := by omega
      have c1 := hc (k + 1) (by omega); rw [g1] at c1
      have hi1 : (k + 1 : Int) < n := by omega
      clear hc
      have e0 : (a == 0) = false := by simpa using h0
      have e1 : (a == 1) = false := by simpa using h1
      clear h0 h1
      clear HR hd t0 t1
      go_wp2
      try rw [Exit.noGoto_ret]
      go_ret
      exact ⟨rfl, rfl⟩
    · skip
      obtain ⟨l0, g0, t0, z0⟩ := drop_cons hd
      obtain ⟨l1, g1, t1, z1⟩ := drop_cons t0
      obtain ⟨bk, off, rfl, hbk, hc⟩ := HL.out.at_ (by omega)
      have hb := u8Bd (HL.out.getD_wf (k + 1) (by omega))
      rw [g1] at hb
      have c0 := hc k (by omega); rw [g0] at c0
      have hi0 : (k : Int) < n := by omega
      have c1 := hc (k + 1) (by omega); rw [g1] at c1
      have hi1 : (k + 1 : Int) < n := by omega
      clear hc
      have e0 : (a == 0) = false := by simpa using h0
      have e1 : (a == 1) = false := by simpa using h1
      clear h0 h1
      have e3 : (n : Int) < k + b := by omega
      clear HR hd t0 t1
      go_wp2
      try rw [Exit.noGoto_ret]
      go_ret
      exact ⟨rfl, rfl⟩
    · skip
      have hr := hid hr
      obtain ⟨l0, g0, t0, z0⟩ := drop_cons hd
      obtain ⟨l1, g1, t1, z1⟩ := drop_cons t0
      obtain ⟨bk, off, rfl, hbk, hc⟩ := HL.out.at_ (by omega)
      have hb := u8Bd (HL.out.getD_wf (k + 1) (by omega))
      rw [g1] at hb
      obtain ⟨N, rfl⟩ : ∃ N : Nat, b = N := ⟨b.toNat, by omega⟩
      have hnn : (k : Int) + N ≤ n := by omega
      have c0 := hc k (by omega); rw [g0] at c0
      have hi0 : (k : Int) < n := by omega
      have c1 := hc (k + 1) (by omega); rw [g1] at c1
      have hi1 : (k + 1 : Int) < n := by omega
      clear hc
      have e0 : (a == 0) = false := by simpa using h0
      have e1 : (a == 1) = false := by simpa using h1
      clear h0 h1
      have HT : Hid (l.drop (k + N) = r.drop (N - 2)) := hid (by rw [← t1, List.drop_drop]; congr 1; omega)
      clear HR hd t0 t1
      go_wp2
      go_roundw
      case rel => exact ⟨k + N, by omega, by go_num, hid (by rw [HT.out]; simpa using hr.out), by trivial⟩
      case measure => simp [intOf]; omega
end Go.Proofs.Ytngaolagifgfjaa.ip
