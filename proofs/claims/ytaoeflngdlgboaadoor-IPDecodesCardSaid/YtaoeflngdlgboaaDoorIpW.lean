/-
  Chapter 6 (ipv4): what is read of any bytes, from a header's fields on, by a walk of the text. Conditions: none but those typed.
-/
import Derived.Test.YtaoeflngdlgboaaDoorIpV
namespace Go.Proofs.YtaoeflngdlgboaaDoor.ip
set_option linter.unusedVariables false
set_option linter.unusedSimpArgs false
open Go.ChangeShapes Go.WideShapes Go.ChangeAt Go.RowKit Go.IntWalk Go.Lib
set_option maxRecDepth 100000 in
set_option maxHeartbeats 2000000 in
theorem dN1 (w : World) (b off n c : Nat) (x0 x2 x3 q : Int) (sv pid B b13 lf pr fr to : Int) (wh mo nb : Bool) (hh tt : Nat) (l : List Int) (hl : Rd .u8 w (some ⟨b, off, none⟩) n l) (h20 : 20 ≤ n) (hn : n ≤ 70000) (hnc : n ≤ c) (hcm : c ≤ maxLen)
    (c0 : (w.alloc (.cells #[.int .i64 0, .int .i64 0, .bool false, .bool false, .int .i64 0, .int .i64 0, .int .i64 0, .int .u32 0, .int .u32 0, .slice none 0 0, .slice none 0 0] 26)).cell? ⟨b, off, none⟩ = some (.int .u8 x0)) (c2 : (w.alloc (.cells #[.int .i64 0, .int .i64 0, .bool false, .bool false, .int .i64 0, .int .i64 0, .int .i64 0, .int .u32 0, .int .u32 0, .slice none 0 0, .slice none 0 0] 26)).cell? ⟨b, off + 2, none⟩ = some (.int .u8 x2)) (c3 : (w.alloc (.cells #[.int .i64 0, .int .i64 0, .bool false, .bool false, .int .i64 0, .int .i64 0, .int .i64 0, .int .u32 0, .int .u32 0, .slice none 0 0, .slice none 0 0] 26)).cell? ⟨b, off + 3, none⟩ = some (.int .u8 x3)) (w0 : 0 ≤ x0 ∧ x0 ≤ 255) (w2 : 0 ≤ x2 ∧ x2 ≤ 255) (w3 : 0 ≤ x3 ∧ x3 ≤ 255) (hp : x0 / 16 = 4) (hq : bits .and .u8 x0 15 = q) (hq4 : q * 4 = (hh : Int)) (q0 : 0 ≤ q ∧ q ≤ 15) (orr : bits .or .i64 (x2 * 256) x3 = (tt : Int)) (h3 : 20 ≤ hh) (h4 : hh ≤ n) (h5 : hh ≤ tt) (h6 : tt ≤ n)
    (HS : Hid (oct.sumF (l.take hh) = 0))
    (e1 : Hid (rdr.num (((l.take hh).drop 1).take 1) = sv)) (e2 : Hid (rdr.num (((l.take hh).drop 4).take 2) = pid)) (e3 : Hid (rdr.num (((l.take hh).drop 6).take 2) = B)) (e4 : Hid (rdr.num (((l.take hh).drop 8).take 1) = lf)) (e5 : Hid (rdr.num (((l.take hh).drop 9).take 1) = pr)) (e6 : Hid (rdr.num (((l.take hh).drop 12).take 4) = fr)) (e7 : Hid (rdr.num (((l.take hh).drop 16).take 4) = to))
    (hwh : Hid ((bits .and .i64 B 16384 != 0) = wh)) (hmo : Hid ((bits .and .i64 B 8192 != 0) = mo)) (hb13 : Hid (bits .and .i64 B 8191 = b13)) (hbb : 0 ≤ b13 ∧ b13 ≤ 8191) (hnb : Hid ((bits .and .i64 B 32768 != 0) = nb)) (hnb2 : nb = true) :
    Calls Tryd.prog 18 #[.slice (some ⟨b, off, none⟩) n c] w fun x w' => x = .returned (.tuple #[.agg #[.int .i64 0, .int .i64 0, .bool false, .bool false, .int .i64 0, .int .i64 0, .int .i64 0, .int .u32 0, .int .u32 0, .slice none 0 0, .slice none 0 0], .int .i64 3]) ∧ Only [] w w' := by
  have QB : Hid (Only [] w (w.alloc (.cells #[.int .i64 0, .int .i64 0, .bool false, .bool false, .int .i64 0, .int .i64 0, .int .i64 0, .int .u32 0, .int .u32 0, .slice none 0 0, .slice none 0 0] 26))) := hid ((Only.refl [] w).alloc _)
  have OR : Hid (Ob (w.alloc (.cells #[.int .i64 0, .int .i64 0, .bool false, .bool false, .int .i64 0, .int .i64 0, .int .i64 0, .int .u32 0, .int .u32 0, .slice none 0 0, .slice none 0 0] 26)) w.heap.size 26 #[.int .i64 0, .int .i64 0, .bool false, .bool false, .int .i64 0, .int .i64 0, .int .i64 0, .int .u32 0, .int .u32 0, .slice none 0 0, .slice none 0 0]) := hid (Ob.new _ _ _)
  have HL := hid hl; clear hl
  have d1 : decide ((n : Int) < 20) = false := decide_eq_false (by omega)
  have i0 : (0 : Int) < n := by omega
  have i2 : (2 : Int) < n := by omega
  have i3 : (3 : Int) < n := by omega
  have d2 : ((4 : Int) != 4) = false := rfl
  have d3 : ¬ (hh : Int) < 20 := by omega
  have d4 : ¬ (n : Int) < (hh : Int) := by omega
  have d5 : ¬ (tt : Int) < (hh : Int) := by omega
  have d6 : ¬ (n : Int) < (tt : Int) := by omega
  have hhc : (hh : Int) ≤ (c : Int) := by omega
  have hsl : ∃ A' c', (∀ W : World, (Instr.slice 24 (.slice (some ⟨b, off, none⟩) n c) (some (.int .i64 (hh : Int))) (some (.int .i64 (tt : Int))) none).run Tryd.prog W = .ok (.slice A' (tt - hh) c') W) ∧ Rd .u8 w A' (tt - hh) ((l.take tt).drop hh) ∧ (A' = none → c' = 0) := by
    have h0 := (HL.out.take tt (by omega)).drop hh (by omega)
    by_cases hce : c = hh
    · subst hce
      obtain rfl : tt = c := by omega
      refine ⟨some ⟨b, off, none⟩, 0, fun W => ?_, ?_, by simp⟩
      · go_simp
      · rw [Nat.sub_self, List.drop_of_length_le (by rw [List.length_take]; omega)]; exact Rd.nil _ _ _
    · have g1 : ¬ (c : Int) = (hh : Int) := by omega
      have g2 : (hh : Int) ≤ (tt : Int) := by omega
      have g3 : (tt : Int) ≤ (c : Int) := by omega
      exact ⟨some ⟨b, off + hh, none⟩, c - hh, fun W => by go_simp, h0, by simp⟩
  obtain ⟨A', c', hsl, hrd, hc'⟩ := hsl
  have HSL := hid hsl; have HRD := hid hrd; have HC' := hid hc'; clear hsl hrd hc'
  go_enter Tryd.func18, Tryd.ntmps18
  go_wp2_with fail
  go_quiet (fail)
  go_wp2_with fail
  clear hq hp
  refine (oct.sum1 _ (some ⟨b, off, none⟩) hh c (l.take hh) ?S1 (by omega)).mono ?_
  case S1 => exact (HL.out.take hh (by omega)).only_nil (by repeat' (first | exact QB.out | refine Only.drewN ?_ _ | refine Only.drew ?_))
  rintro x w6 ⟨rfl, q6, h6⟩
  have o6 : Only [] (w.alloc (.cells #[.int .i64 0, .int .i64 0, .bool false, .bool false, .int .i64 0, .int .i64 0, .int .i64 0, .int .u32 0, .int .u32 0, .slice none 0 0, .slice none 0 0] 26)) w6 := by rw [h6]; repeat' (first | exact Only.refl [] _ | refine Only.drewN ?_ _ | refine Only.drew ?_)
  have OR := hid (OR.out.only o6 (by simp)); have QB := hid (QB.out.trans o6)
  have hu0 := OR.out.lt
  clear h6 o6 c0 c2 c3
  have ds : (oct.sumF (l.take hh) != 0) = false := by rw [HS.out]; rfl
  go_wp2_with fail
  clear ds
  refine (fields1 _ (some ⟨b, off, none⟩) hh c (l.take hh) sv pid B b13 lf pr fr to wh mo ((HL.out.take hh (by omega)).only_nil QB.out) (by simp) h3 (by omega) e1.out e2.out e3.out e4.out e5.out e6.out e7.out hwh.out hmo.out hb13.out hbb).mono ?_
  rintro x w7 ⟨ov, rfl, hov, o7⟩
  have OR := hid (OR.out.only o7 (by simp)); have QB := hid (QB.out.trans o7)
  have hsz6 := OR.out.lt
  have hsz7 := o7.size
  have HOVL := fun k hk => (hov.lt k hk)
  obtain ⟨A1, cap1, ev1, hc1, hm1, r1, hb1⟩ := hov.slice
  have hol : ((l.take hh).drop 20).length = hh - 20 := by rw [List.length_drop, List.length_take, HL.out.len]; omega
  have OV := hid hov; have R1 := hid r1
  rw [hol] at ev1 hc1 R1
  subst ev1
  clear hov r1 o7 hb1
  have O6 : Hid (Ob (w7.alloc (.cells #[.int .i64 sv, .int .i64 pid, .bool wh, .bool mo, .int .i64 (b13 * 8), .int .i64 lf, .int .i64 pr, .int .u32 fr, .int .u32 to, .slice A1 (hh - 20) cap1, .slice none 0 0] 26)) w7.heap.size 26 #[.int .i64 sv, .int .i64 pid, .bool wh, .bool mo, .int .i64 (b13 * 8), .int .i64 lf, .int .i64 pr, .int .u32 fr, .int .u32 to, .slice A1 (hh - 20) cap1, .slice none 0 0]) := hid (Ob.new _ _ _)
  have oa : Only [] w7 (w7.alloc (.cells #[.int .i64 sv, .int .i64 pid, .bool wh, .bool mo, .int .i64 (b13 * 8), .int .i64 lf, .int .i64 pr, .int .u32 fr, .int .u32 to, .slice A1 (hh - 20) cap1, .slice none 0 0] 26)) := (Only.refl _ _).alloc _
  have hlt7 := OR.out.lt
  have OR := hid (OR.out.only oa (by simp)); have QB := hid (QB.out.trans oa); have OV := hid (OV.out.only_nil oa); have R1 := hid (R1.out.only_nil oa)
  clear oa
  have hnb1 := hnb.out
  have k9 := O6.out.cell 9
  subst hnb2
  go_wp2_with (first | (refine wp_storeOb rfl 26 _ _ rfl _ _ rfl rfl _ _ OR.out rfl (by kernel_rfl) (by simp [Value.oneCell']) (fun W5 hW5 => ?_); try simp only [Act.put, List.setIfInBounds_toArray, List.set_cons_zero, List.set_cons_succ]; have OR5 := hid (OR.out.eq_all hW5 rfl); have QB5 := hid (QB.out.eq_all hW5 (Or.inr (by simp))); clear hW5) | fail)
  have r0 := OR5.out.cell 0; have r1 := OR5.out.cell 1; have r2 := OR5.out.cell 2; have r3 := OR5.out.cell 3; have r4 := OR5.out.cell 4; have r5 := OR5.out.cell 5; have r6 := OR5.out.cell 6; have r7 := OR5.out.cell 7; have r8 := OR5.out.cell 8; have r9 := OR5.out.cell 9; have r10 := OR5.out.cell 10
  exact bodyPost_ret (v := .tuple #[.agg #[.int .i64 0, .int .i64 0, .bool false, .bool false, .int .i64 0, .int .i64 0, .int .i64 0, .int .u32 0, .int .u32 0, .slice none 0 0, .slice none 0 0], .int .i64 3]) (by simp [results, Tryd.results18, go_sem, *]) rfl ⟨rfl, QB5.out⟩
set_option maxRecDepth 100000 in
set_option maxHeartbeats 2000000 in
theorem dN2 (w : World) (b off n c : Nat) (x0 x2 x3 q : Int) (sv pid B b13 lf pr fr to : Int) (wh mo nb : Bool) (hh tt : Nat) (l : List Int) (hl : Rd .u8 w (some ⟨b, off, none⟩) n l) (h20 : 20 ≤ n) (hn : n ≤ 70000) (hnc : n ≤ c) (hcm : c ≤ maxLen)
    (c0 : (w.alloc (.cells #[.int .i64 0, .int .i64 0, .bool false, .bool false, .int .i64 0, .int .i64 0, .int .i64 0, .int .u32 0, .int .u32 0, .slice none 0 0, .slice none 0 0] 26)).cell? ⟨b, off, none⟩ = some (.int .u8 x0)) (c2 : (w.alloc (.cells #[.int .i64 0, .int .i64 0, .bool false, .bool false, .int .i64 0, .int .i64 0, .int .i64 0, .int .u32 0, .int .u32 0, .slice none 0 0, .slice none 0 0] 26)).cell? ⟨b, off + 2, none⟩ = some (.int .u8 x2)) (c3 : (w.alloc (.cells #[.int .i64 0, .int .i64 0, .bool false, .bool false, .int .i64 0, .int .i64 0, .int .i64 0, .int .u32 0, .int .u32 0, .slice none 0 0, .slice none 0 0] 26)).cell? ⟨b, off + 3, none⟩ = some (.int .u8 x3)) (w0 : 0 ≤ x0 ∧ x0 ≤ 255) (w2 : 0 ≤ x2 ∧ x2 ≤ 255) (w3 : 0 ≤ x3 ∧ x3 ≤ 255) (hp : x0 / 16 = 4) (hq : bits .and .u8 x0 15 = q) (hq4 : q * 4 = (hh : Int)) (q0 : 0 ≤ q ∧ q ≤ 15) (orr : bits .or .i64 (x2 * 256) x3 = (tt : Int)) (h3 : 20 ≤ hh) (h4 : hh ≤ n) (h5 : hh ≤ tt) (h6 : tt ≤ n)
    (HS : Hid (oct.sumF (l.take hh) = 0))
    (e1 : Hid (rdr.num (((l.take hh).drop 1).take 1) = sv)) (e2 : Hid (rdr.num (((l.take hh).drop 4).take 2) = pid)) (e3 : Hid (rdr.num (((l.take hh).drop 6).take 2) = B)) (e4 : Hid (rdr.num (((l.take hh).drop 8).take 1) = lf)) (e5 : Hid (rdr.num (((l.take hh).drop 9).take 1) = pr)) (e6 : Hid (rdr.num (((l.take hh).drop 12).take 4) = fr)) (e7 : Hid (rdr.num (((l.take hh).drop 16).take 4) = to))
    (hwh : Hid ((bits .and .i64 B 16384 != 0) = wh)) (hmo : Hid ((bits .and .i64 B 8192 != 0) = mo)) (hb13 : Hid (bits .and .i64 B 8191 = b13)) (hbb : 0 ≤ b13 ∧ b13 ≤ 8191) (hnb : Hid ((bits .and .i64 B 32768 != 0) = nb)) (hnb2 : nb = false) (hof : Ofs ((l.take hh).drop 20) false) :
    Calls Tryd.prog 18 #[.slice (some ⟨b, off, none⟩) n c] w fun x w' => x = .returned (.tuple #[.agg #[.int .i64 0, .int .i64 0, .bool false, .bool false, .int .i64 0, .int .i64 0, .int .i64 0, .int .u32 0, .int .u32 0, .slice none 0 0, .slice none 0 0], .int .i64 3]) ∧ Only [] w w' := by
  have QB : Hid (Only [] w (w.alloc (.cells #[.int .i64 0, .int .i64 0, .bool false, .bool false, .int .i64 0, .int .i64 0, .int .i64 0, .int .u32 0, .int .u32 0, .slice none 0 0, .slice none 0 0] 26))) := hid ((Only.refl [] w).alloc _)
  have OR : Hid (Ob (w.alloc (.cells #[.int .i64 0, .int .i64 0, .bool false, .bool false, .int .i64 0, .int .i64 0, .int .i64 0, .int .u32 0, .int .u32 0, .slice none 0 0, .slice none 0 0] 26)) w.heap.size 26 #[.int .i64 0, .int .i64 0, .bool false, .bool false, .int .i64 0, .int .i64 0, .int .i64 0, .int .u32 0, .int .u32 0, .slice none 0 0, .slice none 0 0]) := hid (Ob.new _ _ _)
  have HL := hid hl; clear hl
  have d1 : decide ((n : Int) < 20) = false := decide_eq_false (by omega)
  have i0 : (0 : Int) < n := by omega
  have i2 : (2 : Int) < n := by omega
  have i3 : (3 : Int) < n := by omega
  have d2 : ((4 : Int) != 4) = false := rfl
  have d3 : ¬ (hh : Int) < 20 := by omega
  have d4 : ¬ (n : Int) < (hh : Int) := by omega
  have d5 : ¬ (tt : Int) < (hh : Int) := by omega
  have d6 : ¬ (n : Int) < (tt : Int) := by omega
  have hhc : (hh : Int) ≤ (c : Int) := by omega
  have hsl : ∃ A' c', (∀ W : World, (Instr.slice 24 (.slice (some ⟨b, off, none⟩) n c) (some (.int .i64 (hh : Int))) (some (.int .i64 (tt : Int))) none).run Tryd.prog W = .ok (.slice A' (tt - hh) c') W) ∧ Rd .u8 w A' (tt - hh) ((l.take tt).drop hh) ∧ (A' = none → c' = 0) := by
    have h0 := (HL.out.take tt (by omega)).drop hh (by omega)
    by_cases hce : c = hh
    · subst hce
      obtain rfl : tt = c := by omega
      refine ⟨some ⟨b, off, none⟩, 0, fun W => ?_, ?_, by simp⟩
      · go_simp
      · rw [Nat.sub_self, List.drop_of_length_le (by rw [List.length_take]; omega)]; exact Rd.nil _ _ _
    · have g1 : ¬ (c : Int) = (hh : Int) := by omega
      have g2 : (hh : Int) ≤ (tt : Int) := by omega
      have g3 : (tt : Int) ≤ (c : Int) := by omega
      exact ⟨some ⟨b, off + hh, none⟩, c - hh, fun W => by go_simp, h0, by simp⟩
  obtain ⟨A', c', hsl, hrd, hc'⟩ := hsl
  have HSL := hid hsl; have HRD := hid hrd; have HC' := hid hc'; clear hsl hrd hc'
  go_enter Tryd.func18, Tryd.ntmps18
  go_wp2_with fail
  go_quiet (fail)
  go_wp2_with fail
  clear hq hp
  refine (oct.sum1 _ (some ⟨b, off, none⟩) hh c (l.take hh) ?S1 (by omega)).mono ?_
  case S1 => exact (HL.out.take hh (by omega)).only_nil (by repeat' (first | exact QB.out | refine Only.drewN ?_ _ | refine Only.drew ?_))
  rintro x w6 ⟨rfl, q6, h6⟩
  have o6 : Only [] (w.alloc (.cells #[.int .i64 0, .int .i64 0, .bool false, .bool false, .int .i64 0, .int .i64 0, .int .i64 0, .int .u32 0, .int .u32 0, .slice none 0 0, .slice none 0 0] 26)) w6 := by rw [h6]; repeat' (first | exact Only.refl [] _ | refine Only.drewN ?_ _ | refine Only.drew ?_)
  have OR := hid (OR.out.only o6 (by simp)); have QB := hid (QB.out.trans o6)
  have hu0 := OR.out.lt
  clear h6 o6 c0 c2 c3
  have ds : (oct.sumF (l.take hh) != 0) = false := by rw [HS.out]; rfl
  go_wp2_with fail
  clear ds
  refine (fields1 _ (some ⟨b, off, none⟩) hh c (l.take hh) sv pid B b13 lf pr fr to wh mo ((HL.out.take hh (by omega)).only_nil QB.out) (by simp) h3 (by omega) e1.out e2.out e3.out e4.out e5.out e6.out e7.out hwh.out hmo.out hb13.out hbb).mono ?_
  rintro x w7 ⟨ov, rfl, hov, o7⟩
  have OR := hid (OR.out.only o7 (by simp)); have QB := hid (QB.out.trans o7)
  have hsz6 := OR.out.lt
  have hsz7 := o7.size
  have HOVL := fun k hk => (hov.lt k hk)
  obtain ⟨A1, cap1, ev1, hc1, hm1, r1, hb1⟩ := hov.slice
  have hol : ((l.take hh).drop 20).length = hh - 20 := by rw [List.length_drop, List.length_take, HL.out.len]; omega
  have OV := hid hov; have R1 := hid r1
  rw [hol] at ev1 hc1 R1
  subst ev1
  clear hov r1 o7 hb1
  have O6 : Hid (Ob (w7.alloc (.cells #[.int .i64 sv, .int .i64 pid, .bool wh, .bool mo, .int .i64 (b13 * 8), .int .i64 lf, .int .i64 pr, .int .u32 fr, .int .u32 to, .slice A1 (hh - 20) cap1, .slice none 0 0] 26)) w7.heap.size 26 #[.int .i64 sv, .int .i64 pid, .bool wh, .bool mo, .int .i64 (b13 * 8), .int .i64 lf, .int .i64 pr, .int .u32 fr, .int .u32 to, .slice A1 (hh - 20) cap1, .slice none 0 0]) := hid (Ob.new _ _ _)
  have oa : Only [] w7 (w7.alloc (.cells #[.int .i64 sv, .int .i64 pid, .bool wh, .bool mo, .int .i64 (b13 * 8), .int .i64 lf, .int .i64 pr, .int .u32 fr, .int .u32 to, .slice A1 (hh - 20) cap1, .slice none 0 0] 26)) := (Only.refl _ _).alloc _
  have hlt7 := OR.out.lt
  have OR := hid (OR.out.only oa (by simp)); have QB := hid (QB.out.trans oa); have OV := hid (OV.out.only_nil oa); have R1 := hid (R1.out.only_nil oa)
  clear oa
  have hnb1 := hnb.out
  have k9 := O6.out.cell 9
  subst hnb2
  go_wp2_with fail
  clear hnb1 k9
  refine (wf1 _ A1 (hh - 20) cap1 ((l.take hh).drop 20) false R1.out hc1 hm1 (by omega) hof).mono ?_
  rintro x w8 ⟨rfl, rfl⟩
  go_wp2_with (first | (refine wp_storeOb rfl 26 _ _ rfl _ _ rfl rfl _ _ OR.out rfl (by kernel_rfl) (by simp [Value.oneCell']) (fun W5 hW5 => ?_); try simp only [Act.put, List.setIfInBounds_toArray, List.set_cons_zero, List.set_cons_succ]; have OR5 := hid (OR.out.eq_all hW5 rfl); have QB5 := hid (QB.out.eq_all hW5 (Or.inr (by simp))); clear hW5) | fail)
  have r0 := OR5.out.cell 0; have r1 := OR5.out.cell 1; have r2 := OR5.out.cell 2; have r3 := OR5.out.cell 3; have r4 := OR5.out.cell 4; have r5 := OR5.out.cell 5; have r6 := OR5.out.cell 6; have r7 := OR5.out.cell 7; have r8 := OR5.out.cell 8; have r9 := OR5.out.cell 9; have r10 := OR5.out.cell 10
  exact bodyPost_ret (v := .tuple #[.agg #[.int .i64 0, .int .i64 0, .bool false, .bool false, .int .i64 0, .int .i64 0, .int .i64 0, .int .u32 0, .int .u32 0, .slice none 0 0, .slice none 0 0], .int .i64 3]) (by simp [results, Tryd.results18, go_sem, *]) rfl ⟨rfl, QB5.out⟩
set_option maxRecDepth 100000 in
set_option maxHeartbeats 2000000 in
theorem dN3 (w : World) (b off n c : Nat) (x0 x2 x3 q : Int) (sv pid B b13 lf pr fr to : Int) (wh mo nb : Bool) (hh tt : Nat) (l : List Int) (hl : Rd .u8 w (some ⟨b, off, none⟩) n l) (h20 : 20 ≤ n) (hn : n ≤ 70000) (hnc : n ≤ c) (hcm : c ≤ maxLen)
    (c0 : (w.alloc (.cells #[.int .i64 0, .int .i64 0, .bool false, .bool false, .int .i64 0, .int .i64 0, .int .i64 0, .int .u32 0, .int .u32 0, .slice none 0 0, .slice none 0 0] 26)).cell? ⟨b, off, none⟩ = some (.int .u8 x0)) (c2 : (w.alloc (.cells #[.int .i64 0, .int .i64 0, .bool false, .bool false, .int .i64 0, .int .i64 0, .int .i64 0, .int .u32 0, .int .u32 0, .slice none 0 0, .slice none 0 0] 26)).cell? ⟨b, off + 2, none⟩ = some (.int .u8 x2)) (c3 : (w.alloc (.cells #[.int .i64 0, .int .i64 0, .bool false, .bool false, .int .i64 0, .int .i64 0, .int .i64 0, .int .u32 0, .int .u32 0, .slice none 0 0, .slice none 0 0] 26)).cell? ⟨b, off + 3, none⟩ = some (.int .u8 x3)) (w0 : 0 ≤ x0 ∧ x0 ≤ 255) (w2 : 0 ≤ x2 ∧ x2 ≤ 255) (w3 : 0 ≤ x3 ∧ x3 ≤ 255) (hp : x0 / 16 = 4) (hq : bits .and .u8 x0 15 = q) (hq4 : q * 4 = (hh : Int)) (q0 : 0 ≤ q ∧ q ≤ 15) (orr : bits .or .i64 (x2 * 256) x3 = (tt : Int)) (h3 : 20 ≤ hh) (h4 : hh ≤ n) (h5 : hh ≤ tt) (h6 : tt ≤ n)
    (HS : Hid (oct.sumF (l.take hh) = 0))
    (e1 : Hid (rdr.num (((l.take hh).drop 1).take 1) = sv)) (e2 : Hid (rdr.num (((l.take hh).drop 4).take 2) = pid)) (e3 : Hid (rdr.num (((l.take hh).drop 6).take 2) = B)) (e4 : Hid (rdr.num (((l.take hh).drop 8).take 1) = lf)) (e5 : Hid (rdr.num (((l.take hh).drop 9).take 1) = pr)) (e6 : Hid (rdr.num (((l.take hh).drop 12).take 4) = fr)) (e7 : Hid (rdr.num (((l.take hh).drop 16).take 4) = to))
    (hwh : Hid ((bits .and .i64 B 16384 != 0) = wh)) (hmo : Hid ((bits .and .i64 B 8192 != 0) = mo)) (hb13 : Hid (bits .and .i64 B 8191 = b13)) (hbb : 0 ≤ b13 ∧ b13 ≤ 8191) (hnb : Hid ((bits .and .i64 B 32768 != 0) = nb)) (hnb2 : nb = false) (hof : Ofs ((l.take hh).drop 20) true) (hlong : 65535 - (hh : Int) < b13 * 8 + (tt : Int) - (hh : Int)) :
    Calls Tryd.prog 18 #[.slice (some ⟨b, off, none⟩) n c] w fun x w' => x = .returned (.tuple #[.agg #[.int .i64 0, .int .i64 0, .bool false, .bool false, .int .i64 0, .int .i64 0, .int .i64 0, .int .u32 0, .int .u32 0, .slice none 0 0, .slice none 0 0], .int .i64 5]) ∧ Only [] w w' := by
  have QB : Hid (Only [] w (w.alloc (.cells #[.int .i64 0, .int .i64 0, .bool false, .bool false, .int .i64 0, .int .i64 0, .int .i64 0, .int .u32 0, .int .u32 0, .slice none 0 0, .slice none 0 0] 26))) := hid ((Only.refl [] w).alloc _)
  have OR : Hid (Ob (w.alloc (.cells #[.int .i64 0, .int .i64 0, .bool false, .bool false, .int .i64 0, .int .i64 0, .int .i64 0, .int .u32 0, .int .u32 0, .slice none 0 0, .slice none 0 0] 26)) w.heap.size 26 #[.int .i64 0, .int .i64 0, .bool false, .bool false, .int .i64 0, .int .i64 0, .int .i64 0, .int .u32 0, .int .u32 0, .slice none 0 0, .slice none 0 0]) := hid (Ob.new _ _ _)
  have HL := hid hl; clear hl
  have d1 : decide ((n : Int) < 20) = false := decide_eq_false (by omega)
  have i0 : (0 : Int) < n := by omega
  have i2 : (2 : Int) < n := by omega
  have i3 : (3 : Int) < n := by omega
  have d2 : ((4 : Int) != 4) = false := rfl
  have d3 : ¬ (hh : Int) < 20 := by omega
  have d4 : ¬ (n : Int) < (hh : Int) := by omega
  have d5 : ¬ (tt : Int) < (hh : Int) := by omega
  have d6 : ¬ (n : Int) < (tt : Int) := by omega
  have hhc : (hh : Int) ≤ (c : Int) := by omega
  have hsl : ∃ A' c', (∀ W : World, (Instr.slice 24 (.slice (some ⟨b, off, none⟩) n c) (some (.int .i64 (hh : Int))) (some (.int .i64 (tt : Int))) none).run Tryd.prog W = .ok (.slice A' (tt - hh) c') W) ∧ Rd .u8 w A' (tt - hh) ((l.take tt).drop hh) ∧ (A' = none → c' = 0) := by
    have h0 := (HL.out.take tt (by omega)).drop hh (by omega)
    by_cases hce : c = hh
    · subst hce
      obtain rfl : tt = c := by omega
      refine ⟨some ⟨b, off, none⟩, 0, fun W => ?_, ?_, by simp⟩
      · go_simp
      · rw [Nat.sub_self, List.drop_of_length_le (by rw [List.length_take]; omega)]; exact Rd.nil _ _ _
    · have g1 : ¬ (c : Int) = (hh : Int) := by omega
      have g2 : (hh : Int) ≤ (tt : Int) := by omega
      have g3 : (tt : Int) ≤ (c : Int) := by omega
      exact ⟨some ⟨b, off + hh, none⟩, c - hh, fun W => by go_simp, h0, by simp⟩
  obtain ⟨A', c', hsl, hrd, hc'⟩ := hsl
  have HSL := hid hsl; have HRD := hid hrd; have HC' := hid hc'; clear hsl hrd hc'
  go_enter Tryd.func18, Tryd.ntmps18
  go_wp2_with fail
  go_quiet (fail)
  go_wp2_with fail
  clear hq hp
  refine (oct.sum1 _ (some ⟨b, off, none⟩) hh c (l.take hh) ?S1 (by omega)).mono ?_
  case S1 => exact (HL.out.take hh (by omega)).only_nil (by repeat' (first | exact QB.out | refine Only.drewN ?_ _ | refine Only.drew ?_))
  rintro x w6 ⟨rfl, q6, h6⟩
  have o6 : Only [] (w.alloc (.cells #[.int .i64 0, .int .i64 0, .bool false, .bool false, .int .i64 0, .int .i64 0, .int .i64 0, .int .u32 0, .int .u32 0, .slice none 0 0, .slice none 0 0] 26)) w6 := by rw [h6]; repeat' (first | exact Only.refl [] _ | refine Only.drewN ?_ _ | refine Only.drew ?_)
  have OR := hid (OR.out.only o6 (by simp)); have QB := hid (QB.out.trans o6)
  have hu0 := OR.out.lt
  clear h6 o6 c0 c2 c3
  have ds : (oct.sumF (l.take hh) != 0) = false := by rw [HS.out]; rfl
  go_wp2_with fail
  clear ds
  refine (fields1 _ (some ⟨b, off, none⟩) hh c (l.take hh) sv pid B b13 lf pr fr to wh mo ((HL.out.take hh (by omega)).only_nil QB.out) (by simp) h3 (by omega) e1.out e2.out e3.out e4.out e5.out e6.out e7.out hwh.out hmo.out hb13.out hbb).mono ?_
  rintro x w7 ⟨ov, rfl, hov, o7⟩
  have OR := hid (OR.out.only o7 (by simp)); have QB := hid (QB.out.trans o7)
  have hsz6 := OR.out.lt
  have hsz7 := o7.size
  have HOVL := fun k hk => (hov.lt k hk)
  obtain ⟨A1, cap1, ev1, hc1, hm1, r1, hb1⟩ := hov.slice
  have hol : ((l.take hh).drop 20).length = hh - 20 := by rw [List.length_drop, List.length_take, HL.out.len]; omega
  have OV := hid hov; have R1 := hid r1
  rw [hol] at ev1 hc1 R1
  subst ev1
  clear hov r1 o7 hb1
  have O6 : Hid (Ob (w7.alloc (.cells #[.int .i64 sv, .int .i64 pid, .bool wh, .bool mo, .int .i64 (b13 * 8), .int .i64 lf, .int .i64 pr, .int .u32 fr, .int .u32 to, .slice A1 (hh - 20) cap1, .slice none 0 0] 26)) w7.heap.size 26 #[.int .i64 sv, .int .i64 pid, .bool wh, .bool mo, .int .i64 (b13 * 8), .int .i64 lf, .int .i64 pr, .int .u32 fr, .int .u32 to, .slice A1 (hh - 20) cap1, .slice none 0 0]) := hid (Ob.new _ _ _)
  have oa : Only [] w7 (w7.alloc (.cells #[.int .i64 sv, .int .i64 pid, .bool wh, .bool mo, .int .i64 (b13 * 8), .int .i64 lf, .int .i64 pr, .int .u32 fr, .int .u32 to, .slice A1 (hh - 20) cap1, .slice none 0 0] 26)) := (Only.refl _ _).alloc _
  have hlt7 := OR.out.lt
  have OR := hid (OR.out.only oa (by simp)); have QB := hid (QB.out.trans oa); have OV := hid (OV.out.only_nil oa); have R1 := hid (R1.out.only_nil oa)
  clear oa
  have hnb1 := hnb.out
  have k9 := O6.out.cell 9
  subst hnb2
  go_wp2_with fail
  clear hnb1 k9
  refine (wf1 _ A1 (hh - 20) cap1 ((l.take hh).drop 20) true R1.out hc1 hm1 (by omega) hof).mono ?_
  rintro x w8 ⟨rfl, rfl⟩
  have k4 := O6.out.cell 4
  go_wp2_with (first | (refine wp_storeOb rfl 26 _ _ rfl _ _ rfl rfl _ _ OR.out rfl (by kernel_rfl) (by simp [Value.oneCell']) (fun W5 hW5 => ?_); try simp only [Act.put, List.setIfInBounds_toArray, List.set_cons_zero, List.set_cons_succ]; have OR5 := hid (OR.out.eq_all hW5 rfl); have QB5 := hid (QB.out.eq_all hW5 (Or.inr (by simp))); clear hW5) | fail)
  have r0 := OR5.out.cell 0; have r1 := OR5.out.cell 1; have r2 := OR5.out.cell 2; have r3 := OR5.out.cell 3; have r4 := OR5.out.cell 4; have r5 := OR5.out.cell 5; have r6 := OR5.out.cell 6; have r7 := OR5.out.cell 7; have r8 := OR5.out.cell 8; have r9 := OR5.out.cell 9; have r10 := OR5.out.cell 10
  exact bodyPost_ret (v := .tuple #[.agg #[.int .i64 0, .int .i64 0, .bool false, .bool false, .int .i64 0, .int .i64 0, .int .i64 0, .int .u32 0, .int .u32 0, .slice none 0 0, .slice none 0 0], .int .i64 5]) (by simp [results, Tryd.results18, go_sem, *]) rfl ⟨rfl, QB5.out⟩
set_option maxRecDepth 100000 in
set_option maxHeartbeats 2000000 in
theorem dN4 (w : World) (b off n c : Nat) (x0 x2 x3 q : Int) (sv pid B b13 lf pr fr to : Int) (wh mo nb : Bool) (hh tt : Nat) (l : List Int) (hl : Rd .u8 w (some ⟨b, off, none⟩) n l) (h20 : 20 ≤ n) (hn : n ≤ 70000) (hnc : n ≤ c) (hcm : c ≤ maxLen)
    (c0 : (w.alloc (.cells #[.int .i64 0, .int .i64 0, .bool false, .bool false, .int .i64 0, .int .i64 0, .int .i64 0, .int .u32 0, .int .u32 0, .slice none 0 0, .slice none 0 0] 26)).cell? ⟨b, off, none⟩ = some (.int .u8 x0)) (c2 : (w.alloc (.cells #[.int .i64 0, .int .i64 0, .bool false, .bool false, .int .i64 0, .int .i64 0, .int .i64 0, .int .u32 0, .int .u32 0, .slice none 0 0, .slice none 0 0] 26)).cell? ⟨b, off + 2, none⟩ = some (.int .u8 x2)) (c3 : (w.alloc (.cells #[.int .i64 0, .int .i64 0, .bool false, .bool false, .int .i64 0, .int .i64 0, .int .i64 0, .int .u32 0, .int .u32 0, .slice none 0 0, .slice none 0 0] 26)).cell? ⟨b, off + 3, none⟩ = some (.int .u8 x3)) (w0 : 0 ≤ x0 ∧ x0 ≤ 255) (w2 : 0 ≤ x2 ∧ x2 ≤ 255) (w3 : 0 ≤ x3 ∧ x3 ≤ 255) (hp : x0 / 16 = 4) (hq : bits .and .u8 x0 15 = q) (hq4 : q * 4 = (hh : Int)) (q0 : 0 ≤ q ∧ q ≤ 15) (orr : bits .or .i64 (x2 * 256) x3 = (tt : Int)) (h3 : 20 ≤ hh) (h4 : hh ≤ n) (h5 : hh ≤ tt) (h6 : tt ≤ n)
    (HS : Hid (oct.sumF (l.take hh) = 0))
    (e1 : Hid (rdr.num (((l.take hh).drop 1).take 1) = sv)) (e2 : Hid (rdr.num (((l.take hh).drop 4).take 2) = pid)) (e3 : Hid (rdr.num (((l.take hh).drop 6).take 2) = B)) (e4 : Hid (rdr.num (((l.take hh).drop 8).take 1) = lf)) (e5 : Hid (rdr.num (((l.take hh).drop 9).take 1) = pr)) (e6 : Hid (rdr.num (((l.take hh).drop 12).take 4) = fr)) (e7 : Hid (rdr.num (((l.take hh).drop 16).take 4) = to))
    (hwh : Hid ((bits .and .i64 B 16384 != 0) = wh)) (hmo : Hid ((bits .and .i64 B 8192 != 0) = mo)) (hb13 : Hid (bits .and .i64 B 8191 = b13)) (hbb : 0 ≤ b13 ∧ b13 ≤ 8191) (hnb : Hid ((bits .and .i64 B 32768 != 0) = nb)) (hnb2 : nb = false) (hof : Ofs ((l.take hh).drop 20) true) (hlong : ¬ 65535 - (hh : Int) < b13 * 8 + (tt : Int) - (hh : Int)) :
    Calls Tryd.prog 18 #[.slice (some ⟨b, off, none⟩) n c] w fun x w' => ∃ ov dv, ∃ t : Nat, x = .returned (.tuple #[.agg #[.int .i64 sv, .int .i64 pid, .bool wh, .bool mo, .int .i64 (b13 * 8), .int .i64 lf, .int .i64 pr, .int .u32 fr, .int .u32 to, ov, dv], .int .i64 0]) ∧ Own .u8 5 w' w.heap.size ov ((l.take hh).drop 20) ∧ Own .u8 5 w' t dv ((l.take tt).drop hh) ∧ (∀ k ∈ ov.ownBlock.toList, k < t) ∧ w.heap.size ≤ t ∧ Only [] w w' := by
  have QB : Hid (Only [] w (w.alloc (.cells #[.int .i64 0, .int .i64 0, .bool false, .bool false, .int .i64 0, .int .i64 0, .int .i64 0, .int .u32 0, .int .u32 0, .slice none 0 0, .slice none 0 0] 26))) := hid ((Only.refl [] w).alloc _)
  have OR : Hid (Ob (w.alloc (.cells #[.int .i64 0, .int .i64 0, .bool false, .bool false, .int .i64 0, .int .i64 0, .int .i64 0, .int .u32 0, .int .u32 0, .slice none 0 0, .slice none 0 0] 26)) w.heap.size 26 #[.int .i64 0, .int .i64 0, .bool false, .bool false, .int .i64 0, .int .i64 0, .int .i64 0, .int .u32 0, .int .u32 0, .slice none 0 0, .slice none 0 0]) := hid (Ob.new _ _ _)
  have HL := hid hl; clear hl
  have d1 : decide ((n : Int) < 20) = false := decide_eq_false (by omega)
  have i0 : (0 : Int) < n := by omega
  have i2 : (2 : Int) < n := by omega
  have i3 : (3 : Int) < n := by omega
  have d2 : ((4 : Int) != 4) = false := rfl
  have d3 : ¬ (hh : Int) < 20 := by omega
  have d4 : ¬ (n : Int) < (hh : Int) := by omega
  have d5 : ¬ (tt : Int) < (hh : Int) := by omega
  have d6 : ¬ (n : Int) < (tt : Int) := by omega
  have hhc : (hh : Int) ≤ (c : Int) := by omega
  have hsl : ∃ A' c', (∀ W : World, (Instr.slice 24 (.slice (some ⟨b, off, none⟩) n c) (some (.int .i64 (hh : Int))) (some (.int .i64 (tt : Int))) none).run Tryd.prog W = .ok (.slice A' (tt - hh) c') W) ∧ Rd .u8 w A' (tt - hh) ((l.take tt).drop hh) ∧ (A' = none → c' = 0) := by
    have h0 := (HL.out.take tt (by omega)).drop hh (by omega)
    by_cases hce : c = hh
    · subst hce
      obtain rfl : tt = c := by omega
      refine ⟨some ⟨b, off, none⟩, 0, fun W => ?_, ?_, by simp⟩
      · go_simp
      · rw [Nat.sub_self, List.drop_of_length_le (by rw [List.length_take]; omega)]; exact Rd.nil _ _ _
    · have g1 : ¬ (c : Int) = (hh : Int) := by omega
      have g2 : (hh : Int) ≤ (tt : Int) := by omega
      have g3 : (tt : Int) ≤ (c : Int) := by omega
      exact ⟨some ⟨b, off + hh, none⟩, c - hh, fun W => by go_simp, h0, by simp⟩
  obtain ⟨A', c', hsl, hrd, hc'⟩ := hsl
  have HSL := hid hsl; have HRD := hid hrd; have HC' := hid hc'; clear hsl hrd hc'
  go_enter Tryd.func18, Tryd.ntmps18
  go_wp2_with fail
  go_quiet (fail)
  go_wp2_with fail
  clear hq hp
  refine (oct.sum1 _ (some ⟨b, off, none⟩) hh c (l.take hh) ?S1 (by omega)).mono ?_
  case S1 => exact (HL.out.take hh (by omega)).only_nil (by repeat' (first | exact QB.out | refine Only.drewN ?_ _ | refine Only.drew ?_))
  rintro x w6 ⟨rfl, q6, h6⟩
  have o6 : Only [] (w.alloc (.cells #[.int .i64 0, .int .i64 0, .bool false, .bool false, .int .i64 0, .int .i64 0, .int .i64 0, .int .u32 0, .int .u32 0, .slice none 0 0, .slice none 0 0] 26)) w6 := by rw [h6]; repeat' (first | exact Only.refl [] _ | refine Only.drewN ?_ _ | refine Only.drew ?_)
  have OR := hid (OR.out.only o6 (by simp)); have QB := hid (QB.out.trans o6)
  have hu0 := OR.out.lt
  clear h6 o6 c0 c2 c3
  have ds : (oct.sumF (l.take hh) != 0) = false := by rw [HS.out]; rfl
  go_wp2_with fail
  clear ds
  refine (fields1 _ (some ⟨b, off, none⟩) hh c (l.take hh) sv pid B b13 lf pr fr to wh mo ((HL.out.take hh (by omega)).only_nil QB.out) (by simp) h3 (by omega) e1.out e2.out e3.out e4.out e5.out e6.out e7.out hwh.out hmo.out hb13.out hbb).mono ?_
  rintro x w7 ⟨ov, rfl, hov, o7⟩
  have OR := hid (OR.out.only o7 (by simp)); have QB := hid (QB.out.trans o7)
  have hsz6 := OR.out.lt
  have hsz7 := o7.size
  have HOVL := fun k hk => (hov.lt k hk)
  obtain ⟨A1, cap1, ev1, hc1, hm1, r1, hb1⟩ := hov.slice
  have hol : ((l.take hh).drop 20).length = hh - 20 := by rw [List.length_drop, List.length_take, HL.out.len]; omega
  have OV := hid hov; have R1 := hid r1
  rw [hol] at ev1 hc1 R1
  subst ev1
  clear hov r1 o7 hb1
  have O6 : Hid (Ob (w7.alloc (.cells #[.int .i64 sv, .int .i64 pid, .bool wh, .bool mo, .int .i64 (b13 * 8), .int .i64 lf, .int .i64 pr, .int .u32 fr, .int .u32 to, .slice A1 (hh - 20) cap1, .slice none 0 0] 26)) w7.heap.size 26 #[.int .i64 sv, .int .i64 pid, .bool wh, .bool mo, .int .i64 (b13 * 8), .int .i64 lf, .int .i64 pr, .int .u32 fr, .int .u32 to, .slice A1 (hh - 20) cap1, .slice none 0 0]) := hid (Ob.new _ _ _)
  have oa : Only [] w7 (w7.alloc (.cells #[.int .i64 sv, .int .i64 pid, .bool wh, .bool mo, .int .i64 (b13 * 8), .int .i64 lf, .int .i64 pr, .int .u32 fr, .int .u32 to, .slice A1 (hh - 20) cap1, .slice none 0 0] 26)) := (Only.refl _ _).alloc _
  have hlt7 := OR.out.lt
  have OR := hid (OR.out.only oa (by simp)); have QB := hid (QB.out.trans oa); have OV := hid (OV.out.only_nil oa); have R1 := hid (R1.out.only_nil oa)
  clear oa
  have hnb1 := hnb.out
  have k9 := O6.out.cell 9
  subst hnb2
  go_wp2_with fail
  clear hnb1 k9
  refine (wf1 _ A1 (hh - 20) cap1 ((l.take hh).drop 20) true R1.out hc1 hm1 (by omega) hof).mono ?_
  rintro x w8 ⟨rfl, rfl⟩
  have k4 := O6.out.cell 4
  have HLg := hid hlong
  have hsl := HSL.out
  go_wp2_with fail
  clear k4 hlong hsl
  refine (wrt.clone1 _ A' (tt - hh) c' ((l.take tt).drop hh) (HRD.out.only_nil QB.out) HC'.out (by omega)).mono ?_
  rintro x w9 ⟨dv, rfl, hdv, o9⟩
  have O6 := hid (O6.out.only o9 (by simp)); have OR := hid (OR.out.only o9 (by simp)); have QB := hid (QB.out.trans o9); have OV := hid (OV.out.only_nil o9)
  have HDVL := fun k hk => (hdv.lt k hk)
  obtain ⟨A2, cap2, ev2, _, _, _, _⟩ := hdv.slice
  have hdl : ((l.take tt).drop hh).length = tt - hh := by rw [List.length_drop, List.length_take, HL.out.len]; omega
  rw [hdl] at ev2
  subst ev2
  have DV := hid hdv
  clear hdv o9
  have hsz9 : (w7.alloc (.cells #[.int .i64 sv, .int .i64 pid, .bool wh, .bool mo, .int .i64 (b13 * 8), .int .i64 lf, .int .i64 pr, .int .u32 fr, .int .u32 to, .slice A1 (hh - 20) cap1, .slice none 0 0] 26)).heap.size = w7.heap.size + 1 := by simp
  rw [hsz9] at HDVL
  have q0 := O6.out.cell 10; have q1 := O6.out.frozen 10
  have Q10 : Hid (Only [w7.heap.size] w9 (w9.setCell ⟨w7.heap.size, 10, none⟩ (.slice A2 (tt - hh) cap2))) := hid ((Only.refl [w7.heap.size] w9).setCell (p := ⟨w7.heap.size, 10, none⟩) (Or.inl (by simp)) _)
  have O6x : Hid (Ob (w9.setCell ⟨w7.heap.size, 10, none⟩ (.slice A2 (tt - hh) cap2)) w7.heap.size 26 #[.int .i64 sv, .int .i64 pid, .bool wh, .bool mo, .int .i64 (b13 * 8), .int .i64 lf, .int .i64 pr, .int .u32 fr, .int .u32 to, .slice A1 (hh - 20) cap1, .slice A2 (tt - hh) cap2]) := hid (O6.out.set 10 _)
  have OR := hid (OR.out.far (p := ⟨w7.heap.size, 10, none⟩) (by simp; omega) (.slice A2 (tt - hh) cap2))
  have QB := hid (QB.out.setCell (p := ⟨w7.heap.size, 10, none⟩) (Or.inr (by simp; omega)) (.slice A2 (tt - hh) cap2))
  have OV := hid (OV.out.only Q10.out (fun k hk hm => by have := (HOVL k (by simpa using hk)).2; simp at hm; omega))
  have DV := hid (DV.out.only Q10.out (fun k hk hm => by have := (HDVL k hk).1; simp at hm; omega))
  clear O6
  go_wp2_with (first
    | (refine wp_loadOb rfl 26 _ rfl _ rfl _ _ O6x.out Tryd.underlying26 rfl (by kernel_rfl) ?_; try simp only [Act.put, List.setIfInBounds_toArray, List.set_cons_zero, List.set_cons_succ])
    | (refine wp_storeOb rfl 26 _ _ rfl _ _ rfl rfl _ _ OR.out rfl (by kernel_rfl) (by simp [Value.oneCell']) (fun W5 hW5 => ?_); try simp only [Act.put, List.setIfInBounds_toArray, List.set_cons_zero, List.set_cons_succ]; have OR5 := hid (OR.out.eq_all hW5 rfl); have QB5 := hid (QB.out.eq_all hW5 (Or.inr (by simp))); have OV5 := hid (OV.out.only (Only.eq_all (Only.refl [w.heap.size] _) hW5 (Or.inl (by simp))) (fun k hk hm => by have := (HOVL k (by simpa using hk)).1; simp at hm; omega)); have DV5 := hid (DV.out.only (Only.eq_all (Only.refl [w.heap.size] _) hW5 (Or.inl (by simp))) (fun k hk hm => by have := (HDVL k hk).1; simp at hm; omega)); clear hW5)
    | fail)
  have r0 := OR5.out.cell 0; have r1 := OR5.out.cell 1; have r2 := OR5.out.cell 2; have r3 := OR5.out.cell 3; have r4 := OR5.out.cell 4; have r5 := OR5.out.cell 5; have r6 := OR5.out.cell 6; have r7 := OR5.out.cell 7; have r8 := OR5.out.cell 8; have r9 := OR5.out.cell 9; have r10 := OR5.out.cell 10
  exact bodyPost_ret (v := .tuple #[.agg #[.int .i64 sv, .int .i64 pid, .bool wh, .bool mo, .int .i64 (b13 * 8), .int .i64 lf, .int .i64 pr, .int .u32 fr, .int .u32 to, .slice A1 (hh - 20) cap1, .slice A2 (tt - hh) cap2], .int .i64 0]) (by simp [results, Tryd.results18, go_sem, *]) rfl ⟨_, _, w7.heap.size + 1, rfl, OV5.out.mono_base (by omega), DV5.out.mono_base (by omega), fun k hk => by have := (HOVL k (by simpa using hk)).2; omega, by omega, QB5.out⟩
end Go.Proofs.YtaoeflngdlgboaaDoor.ip
