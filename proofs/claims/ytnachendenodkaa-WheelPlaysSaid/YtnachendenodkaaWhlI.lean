/-
  Chapter 3 (wheel): the document's wheel: Due, by a walk of its text. Conditions: none but those typed.
-/
import Derived.Test.YtnachendenodkaaWhlH
import Derived.Deep.LoopGhost
namespace Go.Proofs.Ytnachendenodkaa.whl
set_option linter.unusedVariables false
set_option linter.unusedSimpArgs false
open Go.ChangeShapes Go.WideShapes Go.ChangeAt Go.RowKit Go.IntWalk Go.Lib
theorem parts {P R : List Tm} {now : Int} (hs : Srt R) (hP : ∀ t ∈ P, isDue now t = true) (hR : R = [] ∨ ∃ t r, R = t :: r ∧ isDue now t = false) : dues (P ++ R) now = P ∧ lates (P ++ R) now = R := by
  have h1 : ∀ t ∈ R, isDue now t = false := by
    rcases hR with rfl | ⟨t, r, rfl, hd⟩
    · intro t ht; cases ht
    · intro u hu
      rcases List.mem_cons.1 hu with rfl | hu
      · exact hd
      · have := (List.pairwise_cons.1 hs).1 u hu
        rw [tlt_iff] at this
        have h2 : ¬ t.a ≤ now := by simpa [isDue] using hd
        simp [isDue]; omega
  unfold dues lates
  rw [List.filter_append, List.filter_append, List.filter_eq_self.2 hP, List.filter_eq_nil_iff.2 (fun t ht => by simp [h1 t ht]), List.filter_eq_nil_iff.2 (fun t ht => by simp [hP t ht]), List.filter_eq_self.2 (fun t ht => by simp [h1 t ht])]
  simp
theorem elemI : Elem Try.prog 38 3 .i64 8 := ⟨Try.underlying38, by kernel_rfl⟩
theorem own_neI {w : World} {g base : Nat} {v : Value} {l : List Int} {cs : Array Value} (ho : Ob w g 31 cs) (h : Own .i64 3 w base v l) : v.ownBlock ≠ some g := by
  intro e
  rcases h.1.2 with ⟨hv, _⟩ | ⟨g', cap, cur, hv, _, hh, _⟩
  · rw [hv] at e; cases e
  · rw [hv] at e
    have : g' = g := by simpa [Value.ownBlock] using e
    subst this
    unfold Ob at ho
    rw [hh] at ho
    injection ho with h2; injection h2 with _ h3
    exact absurd h3 (by decide)
def DueE (w : World) (g : Nat) (A : Option Addr) (D : List Tm) (now : Int) (x : Ending) (w' : World) : Prop := ∃ B cB, x = .returned (.slice B (dues D now).length cB) ∧ Rd .i64 w' B (dues D now).length (keys (dues D now)) ∧ DNext w g A (lates D now) w'
set_option maxRecDepth 100000 in
set_option maxHeartbeats 8000000 in
theorem dueD (w : World) (g : Nat) (A : Option Addr) (c : Nat) (D : List Tm) (now : Int) (h : DV w g A c D) (hs : Srt D) (hw : ∀ t ∈ D, (Lit.int .i64 t.k).wf = true) : Calls Try.prog 21 #[.pointer (some ⟨g, 0, none⟩), .int .i64 now] w (DueE w g A D now) := by
  have HSr := hid hs; have HW := hid hw; have H0 := hid h
  have hI : ∃ A' c', DV w g A' c' D ∧ (∀ b off, A' = some ⟨b, off, none⟩ → (∃ o, A = some ⟨b, o, none⟩)) := ⟨A, c, h, fun b off e => ⟨off, e⟩⟩
  have HI := hid hI
  have hmo := h.most
  clear h hs hw hI
  go_enter Try.func21, Try.ntmps21
  go_wp2_with fail
  have HRange : Hid (D.length ≤ 256) := hid hmo
  go_loopg [5] D.length (fun gk ov wr => ∃ (P R : List Tm) (A' : Option Addr) (c' : Nat), R.length = gk ∧ R.length ≤ 256 ∧ P.length ≤ 256 ∧ Hid (D = P ++ R) ∧ Hid (∀ t ∈ P, isDue now t = true) ∧ Hid (Own .i64 3 wr w.heap.size ov (keys P)) ∧ Hid (DV wr g A' c' R) ∧ Hid (∀ b off, A' = some ⟨b, off, none⟩ → (∃ o, A = some ⟨b, o, none⟩)) ∧ Hid (Only [g] w wr))
  case atStart =>
    obtain ⟨A', c', h1, h2⟩ := HI.out
    exact ⟨[], D, A', c', rfl, hmo, by simp, hid rfl, hid (fun t ht => by cases ht), hid (Own.nil _ _ _ _), hid h1, hid h2, hid (Only.refl _ _)⟩
  case round =>
    clear HI hmo
    obtain ⟨P, R, A', c', hg, hR, hP, HD, HPd, HO, HV, HA, HQ⟩ := hrel
    have HSr2 : Hid (Srt R) := hid (by have := HSr.out; rw [HD.out] at this; exact (List.pairwise_append.1 this).2.1)
    have FIN : Hid ((R = [] ∨ ∃ t r, R = t :: r ∧ isDue now t = false) → dues D now = P ∧ lates D now = R) := hid (fun h => by rw [HD.out]; exact parts HSr2.out HPd.out h)
    have c0 := HV.out.ob.cell 0
    obtain ⟨Ao, co, ev, y1, y2, hRd, y3⟩ := HO.out.slice
    clear y1 y2 y3
    rcases R with _ | ⟨⟨uk, ua⟩, R⟩
    · have c0' : wr.cell? ⟨g, 0, none⟩ = some (.slice A' 0 c') := c0
      clear c0
      have hfin := FIN.out (.inl rfl)
      have HF := hid hfin
      have HRd : Hid (Rd .i64 wr Ao P.length (keys P)) := hid (by rw [keys_len] at hRd; exact hRd)
      rw [keys_len] at ev
      clear hfin FIN hRd
      subst ev
      go_wp2
      go_ret
      refine ⟨Ao, co, by rw [HF.out.1]; rfl, by rw [HF.out.1]; exact HRd.out, ?_⟩
      rw [HF.out.2]
      exact ⟨A', c', HV.out, fun b off e => .inl (HA.out b off e), HQ.out⟩
    · have hnil := HV.out.nil
      obtain ⟨b, off, rfl, hb, hc⟩ := (TRd.of HV.out.rd).at_ (by simp)
      obtain ⟨q0, q1⟩ := hc 0 (by simp)
      clear hc
      replace q0 : wr.cell? ⟨b, off, none⟩ = some (.int .i64 uk) := q0
      replace q1 : wr.cell? ⟨b, off + 1, none⟩ = some (.int .i64 ua) := q1
      obtain ⟨n, hn⟩ : ∃ n, R.length = n := ⟨_, rfl⟩
      have hn1 : (⟨uk, ua⟩ :: R : List Tm).length = n + 1 := by rw [List.length_cons, hn]
      have HN1 := hid hn1
      rw [hn1] at c0 hR
      have hn0 : (0 : Int) < (n : Int) + 1 := by omega
      replace c0 : wr.cell? ⟨g, 0, none⟩ = some (.slice (some ⟨b, off, none⟩) (n + 1) c') := c0
      by_cases hd : ua ≤ now
      · have hcap := HV.out.cap
        rw [hn1] at hcap
        have rd := HV.out.rd
        rw [hn1] at rd
        obtain ⟨A3, c3, sl2, r2, n2, f2, z2, z3, z4⟩ := slHigh wr (some ⟨b, off, none⟩) (n + 1) c' 1 (tcs (⟨uk, ua⟩ :: R)) (by omega) hcap HV.out.cm hnil rd HV.out.fm
        have e1 : n + 1 - 1 = n := by omega
        rw [e1] at sl2 r2 z3
        replace sl2 : ∀ (W : World), (Instr.slice TRs (.slice (some ⟨b, off, none⟩) (n + 1) c') (some (.int .i64 1)) none none).run Try.prog W = .ok (.slice A3 n c3) W := sl2
        have HR2 : Hid (RdS wr A3 n 2 (tcs R)) := hid (by simpa [tcs, Tm.cs] using r2)
        have HN2 := hid n2; have HF2 := hid f2; have HZ2 := hid z2; have HZ3 := hid z3; have HZ4 := hid z4
        clear r2 n2 f2 z2 z3 z4 rd hnil
        have HLI : Hid (Own .i64 3 (wr.alloc (.cells #[.int .i64 uk] 3)) w.heap.size u5 (keys P)) := hid (HO.out.alloc _)
        have hwk : (Lit.int .i64 uk).wf = true := HW.out ⟨uk, ua⟩ (by rw [HD.out]; simp)
        have HRo : Hid (Rd .i64 (wr.alloc (.cells #[.int .i64 uk] 3)) (some ⟨wr.heap.size, 0, none⟩) 1 [uk]) := hid (rd_rowI (Ob.new wr 3 #[.int .i64 uk]) rfl (by intro x hx; rw [show x = uk from by simpa using hx]; exact hwk))
        have HBs : Hid (w.heap.size ≤ (wr.alloc (.cells #[.int .i64 uk] 3)).heap.size) := hid (by have := HQ.out.size; simp; omega)
        have hkl : (keys P).length ≤ 256 := by rw [keys_len]; exact hP
        clear hRd ev FIN hwk
        have c1 : (wr.alloc (.cells #[.int .i64 uk] 3)).cell? ⟨g, 0, none⟩ = some (.slice (some ⟨b, off, none⟩) (n + 1) c') := ((Only.refl [] wr).alloc _).keep c0
        have hglt : g < wr.heap.size := HV.out.ob.lt
        go_wp2_with (at_builtin; refine wpList_app _ rfl (.tmp 23) (.tmp 31) _ rfl elemI w.heap.size _ (keys P) rfl HLI.out (some ⟨wr.heap.size, 0, none⟩) 1 1 [uk] rfl HRo.out (by intro e; cases e) (by omega) (by unfold maxLen; omega) HBs.out ?_)
        intro v4 w4 hv4 hg4 hb4
        have HO4 := hid hv4
        have oG : Only u5.ownBlock.toList wr w4 := ((((Only.refl [] wr).alloc _).more (by simp)) : Only u5.ownBlock.toList wr (wr.alloc (.cells #[.int .i64 uk] 3))).of_grown hg4 (fun k hk => .inl (by rw [hk]; simp))
        have HQ4 : Hid (Only [g] w w4) := hid (HQ.out.fresh oG (fun i hi => .inr (HO.out.lt i (by simpa using hi)).1))
        have HS4 : Hid (wr.heap.size ≤ w4.heap.size) := hid oG.size
        have HV4 : Hid (Ob w4 g 31 #[.slice (some ⟨b, off, none⟩) (n + 1) c']) := hid (by
          have h9 := HV.out.ob.only oG (fun hm => own_neI HV.out.ob HO.out (by simpa using hm))
          rwa [HN1.out] at h9)
        have HR4 : Hid (RdS w4 A3 n 2 (tcs R)) := hid (HR2.out.only oG (fun b3 off3 e _ hm => by
          have h8 := HO.out.lt b3 (by simpa using hm)
          obtain ⟨o1, e1⟩ := HZ2.out b3 off3 e
          obtain ⟨o2, e2⟩ := HA.out b3 o1 e1
          obtain ⟨b4, off4, e4, hb4, _⟩ := H0.out.rd.cells (by rw [HD.out, List.length_append, List.length_cons]; omega)
          rw [e2] at e4
          injection e4 with e4; injection e4 with e4 _
          omega))
        have c4 := HV4.out.cell 0
        have f4 := HV4.out.frozen 0
        clear hv4 hg4 hb4 c1 c0 q0 q1 oG
        have hPl : P.length + 1 ≤ 256 := by have := HRange.out; rw [HD.out] at this; simp at this; omega
        go_wp2
        go_roundg R.length
        case measure => rw [← hg]; simp
        case rel =>
          have oo : Only [g] w4 (w4.setCell ⟨g, 0, none⟩ (.slice A3 n c3)) := (Only.refl _ _).setCell (p := ⟨g, 0, none⟩) (.inl (by simp)) _
          have hne3 : ∀ b3 off3, A3 = some ⟨b3, off3, none⟩ → b3 ≠ g := fun b3 off3 e => by
            obtain ⟨o1, e1⟩ := HZ2.out b3 off3 e
            exact HV.out.ne b3 o1 e1
          have hlt3 : ∀ b3 off3, A3 = some ⟨b3, off3, none⟩ → b3 < (w4.setCell ⟨g, 0, none⟩ (.slice A3 n c3)).heap.size := fun b3 off3 e => by
            obtain ⟨o1, e1⟩ := HZ2.out b3 off3 e
            have h8 := HV.out.lt b3 o1 e1
            have h9 := HS4.out
            simp; omega
          refine ⟨P ++ [⟨uk, ua⟩], R, A3, c3, rfl, by omega, by simpa using hPl, hid (by rw [HD.out, List.append_assoc]; rfl), hid (fun t ht => ?_), hid ?_, hid ?_, hid (fun b3 off3 e => ?_), hid (HQ4.out.setCell (p := ⟨g, 0, none⟩) (.inl (by simp)) _)⟩
          · rcases List.mem_append.1 ht with h | h
            · exact HPd.out t h
            · obtain rfl : t = ⟨uk, ua⟩ := by simpa using h
              simpa [isDue] using hd
          · have h9 := HO4.out.only oo (fun b3 e hm => own_neI HV4.out HO4.out (by rw [e]; simpa using hm))
            simpa [keys] using h9
          · refine ⟨?_, ?_, by rw [hn]; exact HZ3.out, HZ4.out, HN2.out, HF2.out, hne3, hlt3, by omega⟩
            · rw [hn]; exact HV4.out.set 0 _
            · rw [hn]; exact HR4.out.only oo (fun b3 off3 e _ => by simpa using hne3 b3 off3 e)
          · obtain ⟨o1, e1⟩ := HZ2.out b3 off3 e
            exact HA.out b3 o1 e1
      · have hfin := FIN.out (.inr ⟨⟨uk, ua⟩, R, rfl, by simpa [isDue] using hd⟩)
        have HF := hid hfin
        have HRd : Hid (Rd .i64 wr Ao P.length (keys P)) := hid (by rw [keys_len] at hRd; exact hRd)
        rw [keys_len] at ev
        clear hfin FIN hRd
        subst ev
        go_wp2
        go_ret
        refine ⟨Ao, co, by rw [HF.out.1]; rfl, by rw [HF.out.1]; exact HRd.out, ?_⟩
        rw [HF.out.2]
        exact ⟨_, c', HV.out, fun b off e => .inl (HA.out b off e), HQ.out⟩
end Go.Proofs.Ytnachendenodkaa.whl
