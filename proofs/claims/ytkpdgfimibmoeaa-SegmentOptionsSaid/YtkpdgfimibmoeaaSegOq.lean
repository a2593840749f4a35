/-
  Chapter 14 (segment): any options are read, by a walk of the text. Conditions: none but those typed.
-/
import Derived.Test.YtkpdgfimibmoeaaSegOp
namespace Go.Proofs.Ytkpdgfimibmoeaa.seg
set_option linter.unusedVariables false
set_option linter.unusedSimpArgs false
open Go.ChangeShapes Go.WideShapes Go.ChangeAt Go.RowKit Go.IntWalk Go.Lib
set_option maxRecDepth 100000 in
set_option maxHeartbeats 4000000 in
theorem readAny (w : World) (A : Option Addr) (n c : Nat) (l : List Int) (x : Option (Int × Int)) (hl : Rd .u8 w A n l) (hnc : n ≤ c) (hcm : c ≤ maxLen) (hn : n ≤ 100000) (hr : Rop 0 (-1) l x) :
    Calls Try.prog 33 #[.slice A n c] w fun e w' => e = rout x ∧ ∃ q, w' = w.drewN q := by
  have HL := hid hl; have hll := hl.len
  have hcc : c ≤ 9223372036854775807 := by simp only [maxLen] at hcm; omega
  clear hl hcm
  go_enter Try.func33, Try.ntmps33
  go_wp2
  go_step3
  go_wp2
  go_step3
  go_wp2
  go_loopw [2, 3, 5] (fun m s' i wr => ∃ (k : Nat) (mm ss : Int) (q : Nat), k ≤ n ∧ i = .int .i64 k ∧ m = .int .i64 mm ∧ s' = .int .i64 ss ∧ Hid (Rop mm ss (l.drop k) x) ∧ wr = w.drewN q) (fun _ _ i _ => n - (intOf i).toNat)
  case atStart => exact ⟨0, 0, -1, 0, by omega, rfl, rfl, rfl, hid (by simpa using hr), rfl⟩
  case round =>
    clear hr
    obtain ⟨k, mm, ss, q, hk, rfl, rfl, rfl, HR, rfl⟩ := hrel
    rcases HR.out.inv with ⟨hd, rfl⟩ | ⟨r, hd, rfl⟩ | ⟨r, hd, hr⟩ | ⟨a, hd, h0, h1, rfl⟩ | ⟨a, b, r, hd, h0, h1, h2, rfl⟩ | ⟨a, b, r, hd, h0, h1, h2, h3, rfl⟩ | ⟨a, b, r, hd, hr⟩ | ⟨b, r, hd, h2, h3, h4, rfl⟩ | ⟨v, r, hd, hr⟩ | ⟨b, r, hd, h2, h3, h4, rfl⟩ | ⟨a, b, r, hd, h0, h1, h4, h5, h2, h3, hr⟩
    · have hkn : k = n := by have h := congrArg List.length hd; simp at h; omega
      subst hkn
      clear HR hd
      go_wp2
      try rw [Exit.noGoto_ret]
      exact bodyPost_ret (v := .tuple #[.int .i64 mm, .int .i64 ss, .bool true]) (by simp [results, Try.results33, go_sem]) rfl ⟨rfl, _, by first | rfl | (rw [World.drewN_drewN])⟩
    · skip
      obtain ⟨l0, g0, t0, z0⟩ := drop_cons hd
      obtain ⟨bk, off, rfl, hbk, hc⟩ := HL.out.at_ (by omega)
      have c0 := hc k (by omega); rw [g0] at c0
      have hi0 : (k : Int) < n := by omega
      clear hc
      clear HR hd t0
      go_wp2
      try rw [Exit.noGoto_ret]
      exact bodyPost_ret (v := .tuple #[.int .i64 mm, .int .i64 ss, .bool true]) (by simp [results, Try.results33, go_sem]) rfl ⟨rfl, _, by first | rfl | (rw [World.drewN_drewN])⟩
    · have hr := hid hr
      obtain ⟨l0, g0, t0, z0⟩ := drop_cons hd
      obtain ⟨bk, off, rfl, hbk, hc⟩ := HL.out.at_ (by omega)
      have c0 := hc k (by omega); rw [g0] at c0
      have hi0 : (k : Int) < n := by omega
      clear hc
      have T0 := hid t0
      clear HR hd t0
      go_wp2
      go_roundw
      case rel => exact ⟨k + 1, mm, ss, _, by omega, by go_num, by go_num, by go_num, hid (T0.out ▸ hr.out), by first | rfl | (rw [World.drewN_drewN])⟩
      case measure => simp [intOf]; omega
    · skip
      obtain ⟨l0, g0, t0, z0⟩ := drop_cons hd
      simp at z0
      obtain ⟨bk, off, rfl, hbk, hc⟩ := HL.out.at_ (by omega)
      have c0 := hc k (by omega); rw [g0] at c0
      have hi0 : (k : Int) < n := by omega
      clear hc
      have e0 : (a == 0) = false := by simpa using h0
      have e1 : (a == 1) = false := by simpa using h1
      have e2 : ¬ ((k : Int) + 1 < n) := by omega
      have H0 := hid h0; have H1 := hid h1
      clear HR hd t0 h0 h1
      go_wp2
      try go_quiet (fail)
      try go_wp2
      try go_quiet (fail)
      try go_wp2
      try rw [Exit.noGoto_ret]
      exact bodyPost_ret (v := .tuple #[.int .i64 0, .int .i64 0, .bool false]) (by simp [results, Try.results33, go_sem]) rfl ⟨rfl, _, by first | rfl | (rw [World.drewN_drewN])⟩
    · skip
      obtain ⟨l0, g0, t0, z0⟩ := drop_cons hd
      obtain ⟨l1, g1, t1, z1⟩ := drop_cons t0
      obtain ⟨bk, off, rfl, hbk, hc⟩ := HL.out.at_ (by omega)
      have hb := u8Bd (HL.out.getD_wf (k + 1) (by omega))
      rw [g1] at hb
      have c0 := hc k (by omega); rw [g0] at c0
      have hi0 : (k : Int) < n := by omega
      have c1 := hc (k + 1) (by omega); rw [g1] at c1
      have hi1 : (k + 1 : Int) < n := by omega
      clear hc
      have e0 : (a == 0) = false := by simpa using h0
      have e1 : (a == 1) = false := by simpa using h1
      clear h0 h1
      clear HR hd t0 t1
      go_wp2
      try go_quiet (fail)
      try go_wp2
      try go_quiet (fail)
      try go_wp2
      try rw [Exit.noGoto_ret]
      exact bodyPost_ret (v := .tuple #[.int .i64 0, .int .i64 0, .bool false]) (by simp [results, Try.results33, go_sem]) rfl ⟨rfl, _, by first | rfl | (rw [World.drewN_drewN])⟩
    · skip
      obtain ⟨l0, g0, t0, z0⟩ := drop_cons hd
      obtain ⟨l1, g1, t1, z1⟩ := drop_cons t0
      obtain ⟨bk, off, rfl, hbk, hc⟩ := HL.out.at_ (by omega)
      have hb := u8Bd (HL.out.getD_wf (k + 1) (by omega))
      rw [g1] at hb
      have c0 := hc k (by omega); rw [g0] at c0
      have hi0 : (k : Int) < n := by omega
      have c1 := hc (k + 1) (by omega); rw [g1] at c1
      have hi1 : (k + 1 : Int) < n := by omega
      clear hc
      have e0 : (a == 0) = false := by simpa using h0
      have e1 : (a == 1) = false := by simpa using h1
      clear h0 h1
      have e3 : (n : Int) < k + b := by omega
      clear HR hd t0 t1
      go_wp2
      try go_quiet (fail)
      try go_wp2
      try go_quiet (fail)
      try go_wp2
      try rw [Exit.noGoto_ret]
      exact bodyPost_ret (v := .tuple #[.int .i64 0, .int .i64 0, .bool false]) (by simp [results, Try.results33, go_sem]) rfl ⟨rfl, _, by first | rfl | (rw [World.drewN_drewN])⟩
    · have hr := hid hr
      obtain ⟨l0, g0, t0, z0⟩ := drop_cons hd
      obtain ⟨l1, g1, t1, z1⟩ := drop_cons t0
      obtain ⟨l2, g2, t2, z2⟩ := drop_cons t1
      obtain ⟨l3, g3, t3, z3⟩ := drop_cons t2
      obtain ⟨bk, off, rfl, hbk, hc⟩ := HL.out.at_ (by omega)
      have ha := u8Bd (HL.out.getD_wf (k + 2) (by omega)); have hb := u8Bd (HL.out.getD_wf (k + 3) (by omega))
      rw [g2] at ha; rw [g3] at hb
      have hor : bits .or .i64 (a * 256) b = a * 256 + b := i64_or_mul a b 8 256 rfl ha.1 hb.1 (by omega) (by omega)
      have hcp : ¬ ((c : Int) = k + 2) := by omega
      have hcp2 : (k : Int) + 4 ≤ c := by omega
      have c0 := hc k (by omega); rw [g0] at c0
      have hi0 : (k : Int) < n := by omega
      have c1 := hc (k + 1) (by omega); rw [g1] at c1
      have hi1 : (k + 1 : Int) < n := by omega
      have c2 := hc (k + 2) (by omega); rw [g2] at c2
      have hi2 : (k + 2 : Int) < n := by omega
      have c3 := hc (k + 3) (by omega); rw [g3] at c3
      have hi3 : (k + 3 : Int) < n := by omega
      clear hc
      have c4 : w.cell? ⟨bk, off + (k + 2) + 1, none⟩ = some (.int .u8 b) := by have h := c3; rwa [show off + (k + 3) = off + (k + 2) + 1 from by omega] at h
      have c5 : w.cell? ⟨bk, off + (k + 2 + 1), none⟩ = some (.int .u8 b) := c3
      have hL2 : k + 4 - (k + 2) = 2 := by omega
      have T3 := hid t3
      clear HR hd t0 t1 t2 t3
      go_wp2
      try go_quiet (fail)
      try go_wp2
      try go_quiet (fail)
      try go_wp2
      go_roundw
      case rel => exact ⟨k + 4, a * 256 + b, ss, _, by omega, by go_num, by go_num, by go_num, hid (T3.out ▸ hr.out), by first | rfl | (rw [World.drewN_drewN])⟩
      case measure => simp [intOf]; omega
    · skip
      obtain ⟨l0, g0, t0, z0⟩ := drop_cons hd
      obtain ⟨l1, g1, t1, z1⟩ := drop_cons t0
      obtain ⟨bk, off, rfl, hbk, hc⟩ := HL.out.at_ (by omega)
      have hb := u8Bd (HL.out.getD_wf (k + 1) (by omega))
      rw [g1] at hb
      have c0 := hc k (by omega); rw [g0] at c0
      have hi0 : (k : Int) < n := by omega
      have c1 := hc (k + 1) (by omega); rw [g1] at c1
      have hi1 : (k + 1 : Int) < n := by omega
      clear hc
      obtain ⟨N, rfl⟩ : ∃ N : Nat, b = N := ⟨b.toNat, by omega⟩
      have hnc2 : (k : Int) + N ≤ c := by omega
      have hnn : (k : Int) + N ≤ n := by omega
      clear HR hd t0 t1
      by_cases hcp : (c : Int) = k + 2
      · skip
        have e4 : ¬ ((N : Int) - 2 = 2) := by omega
        go_wp2
        try go_quiet (fail)
        try go_wp2
        try go_quiet (fail)
        try go_wp2
        try rw [Exit.noGoto_ret]
        exact bodyPost_ret (v := .tuple #[.int .i64 0, .int .i64 0, .bool false]) (by simp [results, Try.results33, go_sem]) rfl ⟨rfl, _, by first | rfl | (rw [World.drewN_drewN])⟩
      · skip
        have e4 : ¬ ((N : Int) - 2 = 2) := by omega
        go_wp2
        try go_quiet (fail)
        try go_wp2
        try go_quiet (fail)
        try go_wp2
        try rw [Exit.noGoto_ret]
        exact bodyPost_ret (v := .tuple #[.int .i64 0, .int .i64 0, .bool false]) (by simp [results, Try.results33, go_sem]) rfl ⟨rfl, _, by first | rfl | (rw [World.drewN_drewN])⟩
    · have hr := hid hr
      obtain ⟨l0, g0, t0, z0⟩ := drop_cons hd
      obtain ⟨l1, g1, t1, z1⟩ := drop_cons t0
      obtain ⟨l2, g2, t2, z2⟩ := drop_cons t1
      obtain ⟨bk, off, rfl, hbk, hc⟩ := HL.out.at_ (by omega)
      have hv := u8Bd (HL.out.getD_wf (k + 2) (by omega))
      rw [g2] at hv
      have hcp : ¬ ((c : Int) = k + 2) := by omega
      have hcp2 : (k : Int) + 3 ≤ c := by omega
      have c0 := hc k (by omega); rw [g0] at c0
      have hi0 : (k : Int) < n := by omega
      have c1 := hc (k + 1) (by omega); rw [g1] at c1
      have hi1 : (k + 1 : Int) < n := by omega
      have c2 := hc (k + 2) (by omega); rw [g2] at c2
      have hi2 : (k + 2 : Int) < n := by omega
      clear hc
      have T2 := hid t2
      clear HR hd t0 t1 t2
      by_cases h14 : 14 < v
      · rw [if_pos h14] at hr
        go_wp2
        try go_quiet (fail)
        try go_wp2
        try go_quiet (fail)
        try go_wp2
        go_roundw
        case rel => exact ⟨k + 3, mm, 14, _, by omega, by go_num, by go_num, by go_num, hid (T2.out ▸ hr.out), by first | rfl | (rw [World.drewN_drewN])⟩
        case measure => simp [intOf]; omega
      · rw [if_neg h14] at hr
        go_wp2
        try go_quiet (fail)
        try go_wp2
        try go_quiet (fail)
        try go_wp2
        go_roundw
        case rel => exact ⟨k + 3, mm, v, _, by omega, by go_num, by go_num, by go_num, hid (T2.out ▸ hr.out), by first | rfl | (rw [World.drewN_drewN])⟩
        case measure => simp [intOf]; omega
    · skip
      obtain ⟨l0, g0, t0, z0⟩ := drop_cons hd
      obtain ⟨l1, g1, t1, z1⟩ := drop_cons t0
      obtain ⟨bk, off, rfl, hbk, hc⟩ := HL.out.at_ (by omega)
      have hb := u8Bd (HL.out.getD_wf (k + 1) (by omega))
      rw [g1] at hb
      have c0 := hc k (by omega); rw [g0] at c0
      have hi0 : (k : Int) < n := by omega
      have c1 := hc (k + 1) (by omega); rw [g1] at c1
      have hi1 : (k + 1 : Int) < n := by omega
      clear hc
      obtain ⟨N, rfl⟩ : ∃ N : Nat, b = N := ⟨b.toNat, by omega⟩
      have hnc2 : (k : Int) + N ≤ c := by omega
      have hnn : (k : Int) + N ≤ n := by omega
      clear HR hd t0 t1
      by_cases hcp : (c : Int) = k + 2
      · skip
        have e4 : ¬ ((N : Int) - 2 = 1) := by omega
        go_wp2
        try go_quiet (fail)
        try go_wp2
        try go_quiet (fail)
        try go_wp2
        try rw [Exit.noGoto_ret]
        exact bodyPost_ret (v := .tuple #[.int .i64 0, .int .i64 0, .bool false]) (by simp [results, Try.results33, go_sem]) rfl ⟨rfl, _, by first | rfl | (rw [World.drewN_drewN])⟩
      · skip
        have e4 : ¬ ((N : Int) - 2 = 1) := by omega
        go_wp2
        try go_quiet (fail)
        try go_wp2
        try go_quiet (fail)
        try go_wp2
        try rw [Exit.noGoto_ret]
        exact bodyPost_ret (v := .tuple #[.int .i64 0, .int .i64 0, .bool false]) (by simp [results, Try.results33, go_sem]) rfl ⟨rfl, _, by first | rfl | (rw [World.drewN_drewN])⟩
    · have hr := hid hr
      obtain ⟨l0, g0, t0, z0⟩ := drop_cons hd
      obtain ⟨l1, g1, t1, z1⟩ := drop_cons t0
      obtain ⟨bk, off, rfl, hbk, hc⟩ := HL.out.at_ (by omega)
      have hb := u8Bd (HL.out.getD_wf (k + 1) (by omega))
      rw [g1] at hb
      have c0 := hc k (by omega); rw [g0] at c0
      have hi0 : (k : Int) < n := by omega
      have c1 := hc (k + 1) (by omega); rw [g1] at c1
      have hi1 : (k + 1 : Int) < n := by omega
      clear hc
      obtain ⟨N, rfl⟩ : ∃ N : Nat, b = N := ⟨b.toNat, by omega⟩
      have hnc2 : (k : Int) + N ≤ c := by omega
      have hnn : (k : Int) + N ≤ n := by omega
      have HT : Hid (l.drop (k + N) = r.drop (N - 2)) := hid (by rw [← t1, List.drop_drop]; congr 1; omega)
      have e0 : (a == 0) = false := by simpa using h0
      have e1 : (a == 1) = false := by simpa using h1
      have e4 : (a == 2) = false := by simpa using h4
      have e5 : (a == 3) = false := by simpa using h5
      clear HR hd t0 t1 h0 h1 h4 h5
      by_cases hcp : (c : Int) = k + 2
      · skip
        go_wp2
        try go_quiet (fail)
        try go_wp2
        try go_quiet (fail)
        try go_wp2
        go_roundw
        case rel => exact ⟨k + N, mm, ss, _, by omega, by go_num, by go_num, by go_num, hid (by rw [HT.out]; simpa using hr.out), by first | rfl | (rw [World.drewN_drewN])⟩
        case measure => simp [intOf]; omega
      · skip
        go_wp2
        try go_quiet (fail)
        try go_wp2
        try go_quiet (fail)
        try go_wp2
        go_roundw
        case rel => exact ⟨k + N, mm, ss, _, by omega, by go_num, by go_num, by go_num, hid (by rw [HT.out]; simpa using hr.out), by first | rfl | (rw [World.drewN_drewN])⟩
        case measure => simp [intOf]; omega
end Go.Proofs.Ytkpdgfimibmoeaa.seg
