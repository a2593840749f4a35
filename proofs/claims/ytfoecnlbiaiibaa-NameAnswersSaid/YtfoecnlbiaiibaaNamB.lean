/-
  Chapter 21 (name): small letters and one name, by a walk of each text. Conditions: none but those typed.
-/
import Derived.Test.YtfoecnlbiaiibaaNamA
import Derived.Deep.QuietTactic
import Derived.BigQuiet
namespace Go.Proofs.Ytfoecnlbiaiibaa.nam
set_option linter.unusedVariables false
set_option linter.unusedSimpArgs false
open Go.ChangeShapes Go.WideShapes Go.ChangeAt Go.RowKit Go.IntWalk Go.Lib
theorem gd_app (l r : List Int) (i : Nat) (h : i < l.length) : (l ++ r).getD i 0 = l.getD i 0 := by
  rw [List.getD_eq_getElem?_getD, List.getElem?_append_left h, List.getD_eq_getElem?_getD]
theorem gd_set (l : List Int) (k j : Nat) (v : Int) (h : k < l.length) : (l.set k v).getD j 0 = if j = k then v else l.getD j 0 := by
  rw [List.getD_eq_getElem?_getD, List.getElem?_set]
  by_cases hj : j = k
  · rw [if_pos hj.symm, if_pos hj, if_pos h]; rfl
  · rw [if_neg (fun e => hj e.symm), if_neg hj, List.getD_eq_getElem?_getD]
theorem lower1 (w : World) (c : Int) (h : 0 ≤ c ∧ c ≤ 255) : Calls Try.prog 43 #[.int .u8 c] w fun x w' => x = .returned (.int .u8 (low c)) ∧ w' = w := by
  by_cases h1 : 65 ≤ c
  · by_cases h2 : c ≤ 90
    · have HL : Hid (low c = c + 32) := hid (by unfold low; rw [if_pos ⟨h1, h2⟩])
      have e1 : (c + 97) % 256 = c + 97 := by omega
      go_enter Try.func43, Try.ntmps43
      go_wp2
      go_ret
      exact ⟨rInt (by rw [HL.out]; omega), rfl⟩
    · have HL : Hid (low c = c) := hid (by unfold low; rw [if_neg (by omega)])
      go_enter Try.func43, Try.ntmps43
      go_wp2
      go_ret
      exact ⟨rInt HL.out.symm, rfl⟩
  · have HL : Hid (low c = c) := hid (by unfold low; rw [if_neg (by omega)])
    go_enter Try.func43, Try.ntmps43
    go_wp2
    go_ret
    exact ⟨rInt HL.out.symm, rfl⟩
set_option maxHeartbeats 1000000 in
theorem same1 (w : World) (a b : ByteArray) (ha : a.size ≤ 9223372036854775807) (hb : b.size ≤ 9223372036854775807) : Calls Try.prog 21 #[.string a, .string b] w fun x w' => x = .returned (.bool (sm a b)) ∧ Only [] w w' := by
  by_cases hs : a.size = b.size
  · obtain ⟨n, hA⟩ : ∃ n, a.size = n := ⟨_, rfl⟩
    have hB : b.size = n := by omega
    have hn : n ≤ 9223372036854775807 := by omega
    clear hs ha hb
    obtain ⟨cap, r, W0, hcv, OB, QB, hcap⟩ := conv_of w 9 22 5 a Try.underlying9 Try.underlying22 Try.underlying5
    rw [hA] at hcv hcap
    have hg : Hid (w.heap.size < W0.heap.size) := hid OB.out.lt
    generalize w.heap.size = g at hcv OB hg
    have HA := hid hA; have HB := hid hB
    go_enter Try.func21, Try.ntmps21
    go_wp2
    clear hcv
    go_loopw [15] (fun i wr => ∃ k : Nat, i = .int .i64 (k : Int) ∧ k ≤ n ∧ Hid (∀ j, j < k → low (ch a j) = low (ch b j)) ∧ Hid (Only [] W0 wr)) (fun i _ => n - (RowKit.intOf i).toNat)
    case atStart => exact ⟨0, rfl, by omega, hid (fun j hj => absurd hj (by omega)), hid (Only.refl _ _)⟩
    case round =>
      obtain ⟨k, rfl, hk, HK, HO⟩ := hrel
      have QR := hid (QB.out.trans HO.out)
      by_cases hlt : k < n
      · have x0 : ((k : Nat) : Int) < (n : Int) := by omega
        have cl : wr.cell? ⟨g, k, none⟩ = some (.int .u8 (ch a k)) := by
          have hz : k < (chs a).length := by rw [chs_len, HA.out]; exact hlt
          rw [(OB.out.only HO.out (by simp)).cell k (by rw [List.length_append]; omega), ← chs_at a k, gd_app _ _ _ hz]
        have x1 : ∀ W, (Instr.index 9 (.string b) (.int .i64 (k : Int))).run Try.prog W = .ok (.int .u8 (ch b k)) W := fun W => ixs b k (by rw [HB.out]; exact hlt) W
        have ca := ch_bd a k; have cb := ch_bd b k
        obtain ⟨u, hu⟩ : ∃ u, ch a k = u := ⟨_, rfl⟩
        obtain ⟨v, hv⟩ : ∃ v, ch b k = v := ⟨_, rfl⟩
        have HU := hid hu; have HV := hid hv
        rw [hu] at cl ca; rw [hv] at cb
        simp only [hv] at x1
        clear hu hv
        go_wp2_with fail
        go_quiet ((go_at_call 43; exact Calls.quiet_of_same (lower1 _ _ (by first | exact ca | exact cb))))
        by_cases he : low u = low v
        · go_wp2_with fail
          go_roundw
          case rel => exact ⟨k + 1, by go_num, by omega, hid (fun j hj => by
            rcases Nat.lt_or_ge j k with h | h
            · exact HK.out j h
            · obtain rfl : j = k := by omega
              rw [HU.out, HV.out]; exact he), hid (HO.out.drewN _)⟩
          case measure =>
            have hw : wrap64 ((k : Int) + 1) = (k : Int) + 1 := wrap64_in _ (by omega)
            simp [intOf, hw]; omega
        · have HS : Hid (sm a b = false) := hid (sm_at a b k (by rw [HA.out]; exact hlt) (by rw [HB.out]; exact hlt) (by rw [HU.out, HV.out]; exact he))
          go_wp2_with fail
          go_ret
          exact ⟨rBool HS.out.symm, (QR.out.drewN _)⟩
      · have HS : Hid (sm a b = true) := hid (sm_all a b (by rw [HA.out, HB.out]) fun j hj => HK.out j (by rw [HA.out] at hj; omega))
        go_wp2_with fail
        go_ret
        exact ⟨rBool HS.out.symm, QR.out⟩
  · have HS : Hid (sm a b = false) := hid (sm_size a b hs)
    have h1 : ¬ (a.size : Int) = (b.size : Int) := by omega
    go_enter Try.func21, Try.ntmps21
    go_wp2
    go_ret
    exact ⟨rBool HS.out.symm, Only.refl _ _⟩
set_option maxHeartbeats 1000000 in
theorem small1 (w : World) (s : ByteArray) (hs : s.size ≤ 9223372036854775807) : Calls Try.prog 23 #[.string s] w fun x w' => x = .returned (.string (sml s)) ∧ Only [] w w' := by
  obtain ⟨n, hA⟩ : ∃ n, s.size = n := ⟨_, rfl⟩
  have hn : n ≤ 9223372036854775807 := by omega
  clear hs
  obtain ⟨cap, r, W0, hcv, OB, QB, hcap⟩ := conv_of w 9 22 5 s Try.underlying9 Try.underlying22 Try.underlying5
  rw [hA] at hcv hcap
  have hg : Hid (w.heap.size < W0.heap.size) := hid OB.out.lt
  have hgw : Hid (w.heap.size ≤ w.heap.size) := hid (Nat.le_refl _)
  have HZ : Hid ((chs s ++ r).length = n + r.length) := hid (by rw [List.length_append, chs_len, hA])
  have H0 : Hid (∀ j, j < n → (chs s ++ r).getD j 0 = ch s j) := hid (fun j hj => by rw [gd_app _ _ _ (by rw [chs_len, hA]; exact hj), chs_at])
  generalize chs s ++ r = z0 at OB HZ H0
  obtain ⟨g, hgd⟩ : ∃ g, w.heap.size = g := ⟨_, rfl⟩
  rw [hgd] at hcv OB hg
  have HG := hid hgd
  clear hgd hgw
  have HA := hid hA
  go_enter Try.func23, Try.ntmps23
  go_wp2
  clear hcv
  go_loopw [4] (fun i wr => ∃ (k : Nat) (z : List Int), i = .int .i64 (k : Int) ∧ k ≤ n ∧ Hid (z.length = n + r.length) ∧ Hid (∀ j, j < n → z.getD j 0 = if j < k then low (ch s j) else ch s j) ∧ Hid (BR wr g 5 z) ∧ Hid (Only [g] W0 wr)) (fun i _ => n - (RowKit.intOf i).toNat)
  case atStart => exact ⟨0, z0, rfl, by omega, HZ, hid (fun j hj => by rw [H0.out j hj, if_neg (by omega)]), OB, hid (Only.refl _ _)⟩
  case round =>
    obtain ⟨k, z, rfl, hk, HZ2, HK, HB, HO⟩ := hrel
    clear HZ H0 OB
    by_cases hlt : k < n
    · have x0 : ((k : Nat) : Int) < (n : Int) := by omega
      have hzk : Hid (z.getD k 0 = ch s k) := hid (by rw [HK.out k hlt, if_neg (by omega)])
      have hkz : Hid (k < z.length) := hid (by rw [HZ2.out]; omega)
      have cl : wr.cell? ⟨g, k, none⟩ = some (.int .u8 (ch s k)) := by rw [HB.out.cell k hkz.out, hzk.out]
      have fz : wr.frozen? ⟨g, k, none⟩ = false := HB.out.frozen k hkz.out
      have ca := ch_bd s k
      obtain ⟨u, hu⟩ : ∃ u, ch s k = u := ⟨_, rfl⟩
      have HU := hid hu
      rw [hu] at cl ca
      clear hu
      by_cases h1 : 65 ≤ u
      · by_cases h2 : u ≤ 90
        · have HL : Hid (low u = u + 32) := hid (by unfold low; rw [if_pos ⟨h1, h2⟩])
          have e1 : (u + 32) % 256 = u + 32 := by omega
          have e2 : IntKind.u8.wrap (u + 32) = u + 32 := u8_in _ (by omega)
          go_wp2_with fail
          go_roundw
          case rel => exact ⟨k + 1, z.set k (u + 32), by go_num, by omega, hid (by rw [List.length_set]; exact HZ2.out), hid (fun j hj => by
            rw [gd_set _ _ _ _ hkz.out]
            by_cases h : j = k
            · subst h; rw [if_pos rfl, if_pos (by omega), HU.out, HL.out]
            · rw [if_neg h, HK.out j hj]
              by_cases h' : j < k
              · rw [if_pos h', if_pos (by omega)]
              · rw [if_neg h', if_neg (by omega)]), hid (HB.out.set k _), hid (HO.out.setCell (Or.inl (by simp)) _)⟩
          case measure =>
            have hw : wrap64 ((k : Int) + 1) = (k : Int) + 1 := wrap64_in _ (by omega)
            simp [intOf, hw]; omega
        · have HL : Hid (low u = u) := hid (by unfold low; rw [if_neg (by omega)])
          go_wp2_with fail
          go_roundw
          case rel => exact ⟨k + 1, z, by go_num, by omega, HZ2, hid (fun j hj => (HK.out j hj).trans (by
            by_cases h : j < k
            · rw [if_pos h, if_pos (by omega)]
            · by_cases h' : j = k
              · subst h'; rw [if_neg h, if_pos (by omega), HU.out, HL.out]
              · rw [if_neg h, if_neg (by omega)])), HB, HO⟩
          case measure =>
            have hw : wrap64 ((k : Int) + 1) = (k : Int) + 1 := wrap64_in _ (by omega)
            simp [intOf, hw]; omega
      · have HL : Hid (low u = u) := hid (by unfold low; rw [if_neg (by omega)])
        go_wp2_with fail
        go_roundw
        case rel => exact ⟨k + 1, z, by go_num, by omega, HZ2, hid (fun j hj => (HK.out j hj).trans (by
          by_cases h : j < k
          · rw [if_pos h, if_pos (by omega)]
          · by_cases h' : j = k
            · subst h'; rw [if_neg h, if_pos (by omega), HU.out, HL.out]
            · rw [if_neg h, if_neg (by omega)])), HB, HO⟩
        case measure =>
          have hw : wrap64 ((k : Int) + 1) = (k : Int) + 1 := wrap64_in _ (by omega)
          simp [intOf, hw]; omega
    · have hcb := conv_back wr 22 9 5 g cap s z Try.underlying22 Try.underlying9 Try.underlying5 HB.out (by rw [HZ2.out, HA.out]; omega) (fun j hj => by rw [HA.out] at hj; rw [HK.out j hj, if_pos (by omega)])
      rw [HA.out] at hcb
      have QR : Hid (Only [] w wr) := hid (QB.out.fresh HO.out (by intro i hi; right; rw [HG.out]; simp at hi; omega))
      go_wp2_with fail
      go_ret
      exact ⟨rfl, QR.out⟩
set_option maxHeartbeats 1000000 in
theorem rsame1 (w : World) (a b : ByteArray) (ha : a.size ≤ 9223372036854775807) (hb : b.size ≤ 9223372036854775807) : Calls Try.prog 22 #[.string a, .string b] w fun x w' => x = .returned (.bool (sm a b)) ∧ Only [] w w' := by
  have HE := hid (sm_beq a b)
  go_enter Try.func22, Try.ntmps22
  go_wp2_with fail
  refine (small1 _ a ha).mono ?_
  rintro x w1 ⟨rfl, h1⟩
  have Q1 := hid h1
  clear h1
  go_wp2_with fail
  refine (small1 _ b hb).mono ?_
  rintro x w2 ⟨rfl, h2⟩
  have Q2 := hid (Q1.out.trans h2)
  clear h2
  go_wp2_with fail
  go_ret
  exact ⟨rBool HE.out, Q2.out⟩
end Go.Proofs.Ytfoecnlbiaiibaa.nam
