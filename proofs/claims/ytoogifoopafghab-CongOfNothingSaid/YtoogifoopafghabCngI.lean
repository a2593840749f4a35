/-
  Chapter 16 (cong): what each function of the program and of the document's answer does to its object, by a walk of its text, part I. Conditions: the numbers of the object lie in their bounds.
-/
import Derived.Test.YtoogifoopafghabCngH
namespace Go.Proofs.Ytoogifoopafghab.cng
set_option linter.unusedVariables false
set_option linter.unusedSimpArgs false
open Go.ChangeShapes Go.WideShapes Go.ChangeAt Go.RowKit Go.IntWalk Go.Lib
/-- Both objects after i steps. -/
structure Both (w wr : World) (c g r : Nat) (m win thr rep un : Int) (mend : Bool) : Prop where
  cob : Cob wr c g
  one : SndS wr g m win thr rep un mend
  two : Ref wr r m win thr rep un mend
  only : Only [] w wr
structure Places (w : World) (c g r : Nat) : Prop where
  c1 : w.heap.size ≤ c
  g1 : w.heap.size ≤ g
  r1 : w.heap.size ≤ r
  cg : g ≠ c
  cr : r ≠ c
  gr : r ≠ g
theorem playsBad (w : World) (m : Int) (A : Option Addr) (len cap : Nat) (h : m < 1 ∨ 65535 < m) : Calls Try.prog 10 #[.int .i64 m, .slice A len cap] w fun e w' => e = .returned (.bool true) ∧ Only [] w w' := by
  go_enter Try.func10, Try.ntmps10
  go_wp2_with (first | (go_at_call 33; refine (newBad _ _ h).mono ?_; rintro e w' ⟨rfl, rfl⟩) | (go_at_call 34; refine (rnewBad _ _ h).mono ?_; rintro e w' ⟨rfl, rfl⟩) | (go_at_call 35; refine (known _).mono ?_; rintro e w2 ⟨rfl, hk⟩))
  go_ret
  exact ⟨rfl, by assumption⟩
set_option maxRecDepth 100000 in
set_option maxHeartbeats 40000000 in
theorem playsGood (w : World) (m : Int) (A : Option Addr) (len cap : Nat) (ks : Nat → IntKind) (hks : ks = fun j => if j = 2 then .u32 else .i64) (V : Nat → Nat → Int) (hR : Recs w A len 3 ks V) (hm : len ≤ 9223372036854775807) (h1 : 1 ≤ m) (h2 : m ≤ 65535) :
   Calls Try.prog 10 #[.int .i64 m, .slice A len cap] w fun e w' => e = .returned (.bool true) ∧ Only [] w w' := by
  go_enter Try.func10, Try.ntmps10
  go_wp2_with fail
  refine (newGood m w h1 h2).mono ?_
  rintro e w1 ⟨c, g, rfl, hF⟩
  have HF := hid hF; clear hF
  go_wp2_with fail
  refine (rnewGood m w1 h1 h2).mono ?_
  rintro e w2 ⟨r, rfl, o2, hr, hrs⟩
  have HP : Hid (Places w c g r) := hid ⟨HF.out.old.2.1, HF.out.old.1, Nat.le_trans HF.out.only.size hrs, HF.out.old.2.2, fun e => by have := HF.out.cob.lt; omega, fun e => by have := HF.out.snd.lt; omega⟩
  have HB0 : Hid (Both w w2 c g r m (2 * m) 65535 0 0 false) := hid ⟨Ob.only HF.out.cob o2 (by simp), Ob.only HF.out.snd o2 (by simp), hr, HF.out.only.trans o2⟩
  clear o2 hr hrs
  have HK := hid hks; clear hks
  go_wp2_with fail
  go_loopw [9] (fun i wr => ∃ (j : Nat) (win thr rep un : Int) (mend : Bool), i = .int .i64 j ∧ j ≤ len ∧ j ≤ 300 ∧ Hid (Inv j m win thr rep un mend) ∧ Hid (Both w wr c g r m win thr rep un mend)) (fun i _ => 300 - (intOf i).toNat)
  case atStart => exact ⟨0, 2 * m, 65535, 0, 0, false, rfl, by omega, by omega, hid ⟨by omega, by omega, by omega, by omega, by omega⟩, HB0⟩
  case round =>
    obtain ⟨j, win, thr, rep, un, mend, rfl, hj, hj3, HI, HB⟩ := hrel
    by_cases hlt : j < len
    · by_cases hlt3 : j < 300
      · rcases hR with h0 | ⟨b, off, rfl, _, hc⟩
        · omega
        obtain ⟨hbl, hcc⟩ := hc j hlt
        have k0 := hcc 0 (by omega)
        have k1 := hcc 1 (by omega)
        have k2 := hcc 2 (by omega)
        rw [HK.out] at k0 k1 k2
        have b1 := (i64Bd k1.2).2
        have a0 : wr.cell? ⟨b, off + j * 3, none⟩ = some (.int .i64 (V j 0)) := (HB.out.only.cell (p := ⟨b, off + j * 3, none⟩) hbl (by simp)).trans (by simpa using k0.1)
        have a1 : wr.cell? ⟨b, off + j * 3 + 1, none⟩ = some (.int .i64 (V j 1)) := (HB.out.only.cell (p := ⟨b, off + j * 3 + 1, none⟩) hbl (by simp)).trans (by simpa [Nat.add_assoc] using k1.1)
        have a2 : wr.cell? ⟨b, off + j * 3 + 2, none⟩ = some (.int .u32 (V j 2)) := (HB.out.only.cell (p := ⟨b, off + j * 3 + 2, none⟩) hbl (by simp)).trans (by simpa [Nat.add_assoc] using k2.1)
        generalize V j 0 = kd at *
        generalize V j 1 = nn at *
        generalize V j 2 = uu at *
        clear k0 k1 k2 hcc hc
        by_cases e1 : kd = 1
        · skip
          subst e1
          obtain ⟨b', win', rep', mend', HI', hdev, href⟩ := step_acked j m win thr rep un mend HI.out nn uu b1
          have HD := hid hdev; have HR := hid href; have HI2 := hid HI'; clear hdev href HI'
          go_wp2_with fail
          have gl : Hid (g < wr.heap.size) := hid HB.out.one.lt
          have rl : Hid (r < wr.heap.size) := hid HB.out.two.lt
          go_region_held3 (fun w' => w'.cell? ⟨wr.heap.size, 1, none⟩ = some (.int .i64 nn) ∧ w'.cell? ⟨wr.heap.size, 2, none⟩ = some (.int .u32 uu)) (go_keep) (first | (go_at_call 36; refine (HD.out _ c g (HB.out.cob.alloc _).drew (Ob.drew (Ob.alloc HB.out.one _)) HP.out.cg).mono ?_; rintro e w4 ⟨rfl, o4, h4⟩; have q1 := (Ob.only (Ob.drew (Ob.new wr 63 #[.int .i64 1, .int .i64 nn, .int .u32 uu])) o4 (by have := gl.out; simp; omega)).cell 1; have q2 := (Ob.only (Ob.drew (Ob.new wr 63 #[.int .i64 1, .int .i64 nn, .int .u32 uu])) o4 (by have := gl.out; simp; omega)).cell 2; have O4 := hid o4; have H4 := hid h4; clear o4 h4) | (go_at_call 37; refine (HR.out _ r (Ob.only (Ob.drew (Ob.alloc HB.out.two _)) O4.out (by have := HP.out.gr; simp; omega))).mono ?_; rintro e w5 ⟨rfl, o5, h5⟩; have q1 := (Ob.only (Ob.only (Ob.drew (Ob.new wr 63 #[.int .i64 1, .int .i64 nn, .int .u32 uu])) O4.out (by have := gl.out; simp; omega)) o5 (by have := rl.out; simp; omega)).cell 1;  have q2 := (Ob.only (Ob.only (Ob.drew (Ob.new wr 63 #[.int .i64 1, .int .i64 nn, .int .u32 uu])) O4.out (by have := gl.out; simp; omega)) o5 (by have := rl.out; simp; omega)).cell 2; have O5 := hid o5; have H5 := hid h5; clear o5 h5))
          have HB5 : Hid (Both w w5 c g r m win' thr rep' un mend') := hid ⟨Ob.only (Ob.only (HB.out.cob.alloc _).drew O4.out (by have := HP.out.cg; simp; omega)) O5.out (by have := HP.out.cr; simp; omega), Ob.only H4.out O5.out (by have := HP.out.gr; simp; omega), H5.out, fresh1 (fresh1 ((HB.out.only.alloc _).drew) HP.out.g1 O4.out) HP.out.r1 O5.out⟩
          cases mend'
          all_goals
            clear HB O4 H4 O5 H5 HI
            have r1 := HB5.out.two.cell 1
            have r4 := HB5.out.two.cell 4
            have hw := HI2.out.w1
            have hd1 : decide (win' < m) = false := by simp; omega
            have hd2 : decide (16777216 < win') = false := by simp; omega
            go_wp2_with fail
            go_quiet ((first | (go_at_call 42; exact Calls.quiet_of (win1 c g _ _ _ _ _ _ _ _ _ (HB5.out.cob.drewN _) (Ob.drewN HB5.out.one _))) | (go_at_call 43; exact Calls.quiet_of (men1 c g _ _ _ _ _ _ _ _ _ (HB5.out.cob.drewN _) (Ob.drewN HB5.out.one _)))))
            go_wp2_with fail
            go_roundw
            case rel => exact ⟨j + 1, win', thr, rep', un, _, by go_num, by omega, by omega, HI2, hid ⟨HB5.out.cob.drewN _, Ob.drewN HB5.out.one _, HB5.out.two.drewN _, HB5.out.only.drewN _⟩⟩
            case measure => simp [intOf]; omega
        · by_cases e2 : kd = 2
          · skip
            subst e2
            obtain ⟨b', win', thr', rep', un', mend', HI', hdev, href⟩ := step_same j m win thr rep un mend HI.out (by omega) nn uu b1
            have HD := hid hdev; have HR := hid href; have HI2 := hid HI'; clear hdev href HI'
            go_wp2_with fail
            have gl : Hid (g < wr.heap.size) := hid HB.out.one.lt
            have rl : Hid (r < wr.heap.size) := hid HB.out.two.lt
            go_region_held3 (fun w' => w'.cell? ⟨wr.heap.size, 1, none⟩ = some (.int .i64 nn) ∧ w'.cell? ⟨wr.heap.size, 2, none⟩ = some (.int .u32 uu)) (go_keep) (first | (go_at_call 38; refine (HD.out _ c g (HB.out.cob.alloc _).drew (Ob.drew (Ob.alloc HB.out.one _)) HP.out.cg).mono ?_; rintro e w4 ⟨rfl, o4, h4⟩; have q1 := (Ob.only (Ob.drew (Ob.new wr 63 #[.int .i64 2, .int .i64 nn, .int .u32 uu])) o4 (by have := gl.out; simp; omega)).cell 1; have q2 := (Ob.only (Ob.drew (Ob.new wr 63 #[.int .i64 2, .int .i64 nn, .int .u32 uu])) o4 (by have := gl.out; simp; omega)).cell 2; have O4 := hid o4; have H4 := hid h4; clear o4 h4) | (go_at_call 39; refine (HR.out _ r (Ob.only (Ob.drew (Ob.alloc HB.out.two _)) O4.out (by have := HP.out.gr; simp; omega))).mono ?_; rintro e w5 ⟨rfl, o5, h5⟩; have q1 := (Ob.only (Ob.only (Ob.drew (Ob.new wr 63 #[.int .i64 2, .int .i64 nn, .int .u32 uu])) O4.out (by have := gl.out; simp; omega)) o5 (by have := rl.out; simp; omega)).cell 1;  have q2 := (Ob.only (Ob.only (Ob.drew (Ob.new wr 63 #[.int .i64 2, .int .i64 nn, .int .u32 uu])) O4.out (by have := gl.out; simp; omega)) o5 (by have := rl.out; simp; omega)).cell 2; have O5 := hid o5; have H5 := hid h5; clear o5 h5))
            have HB5 : Hid (Both w w5 c g r m win' thr' rep' un' mend') := hid ⟨Ob.only (Ob.only (HB.out.cob.alloc _).drew O4.out (by have := HP.out.cg; simp; omega)) O5.out (by have := HP.out.cr; simp; omega), Ob.only H4.out O5.out (by have := HP.out.gr; simp; omega), H5.out, fresh1 (fresh1 ((HB.out.only.alloc _).drew) HP.out.g1 O4.out) HP.out.r1 O5.out⟩
            cases mend'
            all_goals
              clear HB O4 H4 O5 H5 HI
              have r1 := HB5.out.two.cell 1
              have r4 := HB5.out.two.cell 4
              have hw := HI2.out.w1
              have hd1 : decide (win' < m) = false := by simp; omega
              have hd2 : decide (16777216 < win') = false := by simp; omega
              go_wp2_with fail
              go_quiet ((first | (go_at_call 42; exact Calls.quiet_of (win1 c g _ _ _ _ _ _ _ _ _ (HB5.out.cob.drewN _) (Ob.drewN HB5.out.one _))) | (go_at_call 43; exact Calls.quiet_of (men1 c g _ _ _ _ _ _ _ _ _ (HB5.out.cob.drewN _) (Ob.drewN HB5.out.one _)))))
              go_wp2_with fail
              go_roundw
              case rel => exact ⟨j + 1, win', thr', rep', un', _, by go_num, by omega, by omega, HI2, hid ⟨HB5.out.cob.drewN _, Ob.drewN HB5.out.one _, HB5.out.two.drewN _, HB5.out.only.drewN _⟩⟩
              case measure => simp [intOf]; omega
          · skip
            obtain ⟨thr', HI', hdev, href⟩ := step_lost j m win thr rep un mend HI.out nn b1
            have HD := hid hdev; have HR := hid href; have HI2 := hid HI'; clear hdev href HI'
            have gl : Hid (g < wr.heap.size) := hid HB.out.one.lt
            go_wp2_with fail
            refine (HD.out _ c g (HB.out.cob.alloc _) (Ob.alloc HB.out.one _) HP.out.cg).mono ?_
            rintro e w4 ⟨rfl, o4, h4⟩
            have q1 := (Ob.only (Ob.new wr 63 #[.int .i64 kd, .int .i64 nn, .int .u32 uu]) o4 (by have := gl.out; simp; omega)).cell 1
            have O4 := hid o4; have H4 := hid h4; clear o4 h4
            go_wp2_with fail
            refine (HR.out _ r (Ob.only (Ob.alloc HB.out.two _) O4.out (by have := HP.out.gr; simp; omega))).mono ?_
            rintro e w5 ⟨rfl, o5, h5⟩
            have O5 := hid o5; have H5 := hid h5; clear o5 h5
            have HB5 : Hid (Both w w5 c g r m m thr' 0 un false) := hid ⟨Ob.only (Ob.only (HB.out.cob.alloc _) O4.out (by have := HP.out.cg; simp; omega)) O5.out (by have := HP.out.cr; simp; omega), Ob.only H4.out O5.out (by have := HP.out.gr; simp; omega), H5.out, fresh1 (fresh1 (HB.out.only.alloc _) HP.out.g1 O4.out) HP.out.r1 O5.out⟩
            clear HB O4 H4 O5 H5 HI
            have r1 := HB5.out.two.cell 1
            have r4 := HB5.out.two.cell 4
            have hw := HI2.out.w1
            go_wp2_with fail
            go_quiet ((first | (go_at_call 42; exact Calls.quiet_of (win1 c g _ _ _ _ _ _ _ _ _ (HB5.out.cob.drewN _) (Ob.drewN HB5.out.one _))) | (go_at_call 43; exact Calls.quiet_of (men1 c g _ _ _ _ _ _ _ _ _ (HB5.out.cob.drewN _) (Ob.drewN HB5.out.one _)))))
            go_wp2_with fail
            go_roundw
            case rel => exact ⟨j + 1, m, thr', 0, un, false, by go_num, by omega, by omega, HI2, hid ⟨HB5.out.cob.drewN _, Ob.drewN HB5.out.one _, HB5.out.two.drewN _, HB5.out.only.drewN _⟩⟩
            case measure => simp [intOf]; omega
      · skip
        go_wp2_with (go_at_call 35; refine (known _).mono ?_; rintro e w6 ⟨rfl, o6⟩)
        go_ret
        exact ⟨rfl, HB.out.only.trans (by assumption)⟩
    · skip
      go_wp2_with (go_at_call 35; refine (known _).mono ?_; rintro e w6 ⟨rfl, o6⟩)
      go_ret
      exact ⟨rfl, HB.out.only.trans (by assumption)⟩
theorem playsLaw (w : World) (m : Int) (A : Option Addr) (len cap : Nat) (ks : Nat → IntKind) (hks : ks = fun j => if j = 2 then .u32 else .i64) (V : Nat → Nat → Int) (hR : Recs w A len 3 ks V) :
   Calls Try.prog 10 #[.int .i64 m, .slice A len cap] w fun e w' => e = .returned (.bool true) ∧ Only [] w w' := by
  by_cases h : m < 1 ∨ 65535 < m
  · exact playsBad w m A len cap h
  · exact playsGood w m A len cap ks hks V hR hR.len_le (by omega) (by omega)
end Go.Proofs.Ytoogifoopafghab.cng
