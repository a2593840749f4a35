/-
  Chapter 10 (igmp): Tick of the program, by a walk of its text. Conditions: none but those typed.
-/
import Derived.Test.YtodcjokafjdhdaaIgB
namespace Go.Proofs.Ytodcjokafjdhdaa.igm
set_option linter.unusedVariables false
set_option linter.unusedSimpArgs false
open Go.ChangeShapes Go.WideShapes Go.ChangeAt Go.RowKit Go.IntWalk Go.Lib
/-- A member's timer is due at a tick. -/
def Mb.fires (dz : Nat → Int) (now : Int) (m : Mb) : Bool := match m.p with
  | none => false
  | some b => decide (dz b ≤ now)
/-- A member behind a tick. -/
def Mb.tk (dz : Nat → Int) (now : Int) (m : Mb) : Mb := if m.fires dz now then ⟨m.g, none, true⟩ else m
/-- The groups that are reported at a tick. -/
def rpt (dz : Nat → Int) (now : Int) (M : List Mb) : List Int := (M.filter (Mb.fires dz now)).map (·.g)
/-- A report's cells. -/
def ign (t : Int) : List Value := [.int .i64 22, .int .i64 0, .int .u32 t]
theorem ign_len (t : Int) : (ign t).length = 3 := rfl
theorem ign_one (t : Int) : ∀ u ∈ ign t, u.oneCell' = true := fun u hu => by
  simp only [ign, List.mem_cons, List.not_mem_nil, or_false] at hu
  rcases hu with rfl | rfl | rfl <;> rfl
theorem elemG : ElemS Try.prog 58 25 (.agg #[.int .i64 0, .int .i64 0, .int .u32 0]) 3 24 := ⟨Try.underlying58, by kernel_rfl, by kernel_rfl, by decide⟩
theorem rdS_ign (w : World) (t : Int) : RdS (w.alloc (.cells #[.int .i64 22, .int .i64 0, .int .u32 t] 25)) (some ⟨w.heap.size, 0, none⟩) 1 3 (ign t) :=
  ⟨rfl, ign_one t, fun _ => ⟨w.heap.size, 0, rfl, by simp, fun j u hj => by
    rw [Nat.zero_add, (Ob.new w 25 _).cell]
    rw [← hj]
    unfold ign
    simp⟩⟩
theorem rpt_le (dz : Nat → Int) (now : Int) (M : List Mb) : (rpt dz now M).length ≤ M.length := by
  unfold rpt; rw [List.length_map]; exact List.length_filter_le _ _
theorem rpt_yes {dz : Nat → Int} {now : Int} {P : List Mb} {m : Mb} (h : m.fires dz now = true) : rpt dz now (P ++ [m]) = rpt dz now P ++ [m.g] := by
  unfold rpt; rw [List.filter_append, List.map_append]; simp [h]
theorem rpt_no {dz : Nat → Int} {now : Int} {P : List Mb} {m : Mb} (h : m.fires dz now = false) : rpt dz now (P ++ [m]) = rpt dz now P := by
  unfold rpt; rw [List.filter_append, List.map_append]; simp [h]
theorem enc_set : ∀ (X : List Mb) (m : Mb) (R : List Mb), ((rws Mb.enc (X ++ m :: R)).set (X.length * 3 + 1) (.pointer none)).set (X.length * 3 + 2) (.bool true) = rws Mb.enc (X ++ ⟨m.g, none, true⟩ :: R)
  | [], m, R => by simp [rws, Mb.enc]
  | a :: X, m, R => by
    have ih := enc_set X m R
    show ((.int .u32 a.g :: .pointer (a.p.map fun b => ⟨b, 0, none⟩) :: .bool a.o :: rws Mb.enc (X ++ m :: R)).set ((X.length + 1) * 3 + 1) (.pointer none)).set ((X.length + 1) * 3 + 2) (.bool true) = .int .u32 a.g :: .pointer (a.p.map fun b => ⟨b, 0, none⟩) :: .bool a.o :: rws Mb.enc (X ++ ⟨m.g, none, true⟩ :: R)
    rw [show (X.length + 1) * 3 + 1 = X.length * 3 + 1 + 1 + 1 + 1 from by omega, show (X.length + 1) * 3 + 2 = X.length * 3 + 2 + 1 + 1 + 1 from by omega]
    simp only [List.set_cons_succ]
    rw [ih]
/-- The cells of the member that stands behind X. -/
theorem mid_cell {w : World} {gb n k : Nat} {X : List Mb} {m : Mb} {R : List Mb} (h : RdS w (some ⟨gb, 0, none⟩) n 3 (rws Mb.enc (X ++ m :: R))) (hn : (X ++ m :: R).length = n) (hk : X.length = k) :
    w.cell? ⟨gb, k * 3, none⟩ = some (.int .u32 m.g) ∧ w.cell? ⟨gb, k * 3 + 1, none⟩ = some (.pointer (m.p.map fun b => ⟨b, 0, none⟩)) ∧ w.cell? ⟨gb, k * 3 + 2, none⟩ = some (.bool m.o) := by
  subst hk
  have hl : X.length < (X ++ m :: R).length := by rw [List.length_append, List.length_cons]; omega
  obtain ⟨b, off, e, _, hc⟩ := RdS.elem h hn enc_len (by decide) X.length hl
  injection e with e; injection e with e1 e2
  subst e1; subst e2
  have e3 : (X ++ m :: R)[X.length]'hl = m := by simp
  rw [e3] at hc
  have h0 := hc 0 _ rfl; have h1 := hc 1 _ rfl; have h2 := hc 2 _ rfl
  rw [Nat.zero_add] at h0 h1 h2
  exact ⟨h0, h1, h2⟩
/-- The timers of members lie in objects of their own, and tell when they are due. -/
def Dues (w : World) (dz : Nat → Int) (M : List Mb) : Prop := ∀ m ∈ M, ∀ b, m.p = some b → Ob w b 3 #[.int .i64 (dz b)]
def TickE (base g : Nat) (v : Value) (M : List Mb) (dz : Nat → Int) (now : Int) (w : World) (x : Ending) (w' : World) : Prop :=
  ∃ v', x = .returned v' ∧ w'.ownsRow w.heap.size 25 3 v' (rpt dz now M).length (rws ign (rpt dz now M)) ∧ Ob w' g 46 #[v] ∧ w'.ownsRow base 77 3 v M.length (rws Mb.enc (M.map (Mb.tk dz now))) ∧ Dues w' dz M ∧ Only v.ownBlock.toList w w'
set_option maxRecDepth 100000 in
set_option maxHeartbeats 4000000 in
theorem tick1 (w : World) (base g : Nat) (v : Value) (M : List Mb) (dz : Nat → Int) (now : Int) (ho : Ob w g 46 #[v]) (hv : w.ownsRow base 77 3 v M.length (rws Mb.enc M)) (hD : Dues w dz M) (hb : M.length ≤ 16) :
    Calls Try.prog 23 #[.pointer (some ⟨g, 0, none⟩), .int .i64 now] w (TickE base g v M dz now w) := by
  obtain ⟨A, c, ev, -, -, -, -, -, hfa⟩ := RdS.of_own hv (rws_one enc_one _)
  subst ev
  obtain ⟨n, hn⟩ : ∃ n, M.length = n := ⟨_, rfl⟩
  have HNm := hid hn
  rw [hn] at ho hv hb ⊢
  have HO0 := hid ho; have HV0 := hid hv; have HD0 := hid hD
  have HFA := hid hfa
  have k0 := ho.cell 0
  clear ho hv hD hfa
  go_enter Try.func23, Try.ntmps23
  go_wp2_with fail
  clear k0
  go_loopw [15, 5, 6, 7] (fun i vo _ _ wr => ∃ (k : Nat) (P R : List Mb) (u : Value), u = vo ∧ i = .int .i64 k ∧ Hid (M = P ++ R) ∧ Hid (P.length = k) ∧ k ≤ n ∧ Hid (Ob wr g 46 #[.slice A n c]) ∧ Hid (wr.ownsRow base 77 3 (.slice A n c) n (rws Mb.enc (P.map (Mb.tk dz now) ++ R))) ∧ Hid (wr.ownsRow w.heap.size 25 3 u (rpt dz now P).length (rws ign (rpt dz now P))) ∧ Hid (Dues wr dz M) ∧ Hid (Only (Value.slice A n c).ownBlock.toList w wr)) (fun i _ _ _ _ => n - (RowKit.intOf i).toNat)
  case atStart => exact ⟨0, [], M, _, rfl, rfl, hid rfl, hid rfl, by omega, HO0, HV0, hid (World.ownsRow_nil _ _ _ _), HD0, hid (Only.refl _ _)⟩
  case round =>
    obtain ⟨k, P, R, u, rfl, rfl, HM, HP, hk, HO, HV, HU, HD, HQ⟩ := hrel
    rcases R with _ | ⟨m, R⟩
    · have hkn : k = n := by have := congrArg List.length HM.out; rw [List.append_nil] at this; rw [← HNm.out, ← HP.out, this]
      subst hkn
      have hPM : P = M := by rw [HM.out, List.append_nil]
      subst hPM
      go_wp2_with fail
      go_ret
      refine ⟨u, rfl, HU.out, HO.out, ?_, HD.out, HQ.out⟩
      have h9 := HV.out
      rw [List.append_nil] at h9
      rw [HP.out]
      exact h9
    · have hlt : k < n := by
        have := congrArg List.length HM.out
        rw [List.length_append, List.length_cons] at this
        rw [← HNm.out, ← HP.out, this]; omega
      have HX : Hid ((P.map (Mb.tk dz now)).length = k) := hid (by rw [List.length_map]; exact HP.out)
      have HXn : Hid ((P.map (Mb.tk dz now) ++ m :: R).length = n) := hid (by rw [List.length_append, HX.out, ← HNm.out, HM.out, List.length_append, HP.out])
      obtain ⟨gb, rfl⟩ : ∃ gb, A = some ⟨gb, 0, none⟩ := by
        rcases HFA.out with h | h
        · exfalso
          rcases HV.out.2 with ⟨h9, h8⟩ | ⟨p, cap, cur, h9, _⟩
          · omega
          · rw [h] at h9; cases h9
        · exact h
      obtain ⟨_, _, ev, -, -, -, hr, -, -⟩ := RdS.of_own HV.out (rws_one enc_one _)
      injection ev with ev1 ev2 ev3; clear ev2; subst ev3
      subst ev1
      obtain ⟨c0, c1, c2⟩ := mid_cell hr HXn.out HX.out
      have k0 := HO.out.cell 0
      clear hr
      obtain ⟨tg, p, l⟩ := m
      have HIN : Hid ((⟨tg, p, l⟩ : Mb) ∈ M) := hid (by rw [HM.out]; simp)
      have HM1 : Hid (M = (P ++ [⟨tg, p, l⟩]) ++ R) := hid (by rw [HM.out]; simp)
      have HP1 : Hid ((P ++ [(⟨tg, p, l⟩ : Mb)]).length = k + 1) := hid (by rw [List.length_append, HP.out]; rfl)
      cases p with
      | none =>
        have hf : Mb.fires dz now ⟨tg, none, l⟩ = false := rfl
        have ht : Mb.tk dz now ⟨tg, none, l⟩ = ⟨tg, none, l⟩ := by unfold Mb.tk; rw [hf]; rfl
        have HV1 : Hid (wr.ownsRow base 77 3 (.slice (some ⟨gb, 0, none⟩) n c) n (rws Mb.enc ((P ++ [(⟨tg, none, l⟩ : Mb)]).map (Mb.tk dz now) ++ R))) := hid (by rw [List.map_append, List.map_cons, List.map_nil, ht, List.append_assoc]; exact HV.out)
        have HU1 : Hid (wr.ownsRow w.heap.size 25 3 u (rpt dz now (P ++ [(⟨tg, none, l⟩ : Mb)])).length (rws ign (rpt dz now (P ++ [(⟨tg, none, l⟩ : Mb)])))) := hid (by rw [rpt_no hf]; exact HU.out)
        replace c1 : wr.cell? ⟨gb, k * 3 + 1, none⟩ = some (.pointer none) := c1
        clear hf ht
        go_wp2_with fail
        go_roundw
        case rel => exact ⟨k + 1, P ++ [⟨tg, none, l⟩], R, u, rfl, by first | rfl | go_num, HM1, HP1, by omega, HO, HV1, HU1, HD, HQ⟩
        case measure => simp [RowKit.intOf]; omega
      | some b =>
        have d0 := (HD.out _ HIN.out b rfl).cell 0
        replace c1 : wr.cell? ⟨gb, k * 3 + 1, none⟩ = some (.pointer (some ⟨b, 0, none⟩)) := c1
        by_cases hz : dz b ≤ now
        · have hf : Mb.fires dz now ⟨tg, some b, l⟩ = true := by show decide (dz b ≤ now) = true; exact decide_eq_true hz
          have ht : Mb.tk dz now ⟨tg, some b, l⟩ = ⟨tg, none, true⟩ := by unfold Mb.tk; rw [hf]; rfl
          have hcl : ∀ j, j < n * 3 → (wr.cell? ⟨gb, j, none⟩).isSome = true ∧ wr.frozen? ⟨gb, j, none⟩ = false := by
            intro j hj
            rcases HV.out.2 with ⟨h9, h8⟩ | ⟨p, cap, cur, h9, hb9, hh9, hc9, _, hs9, _⟩
            · omega
            · injection h9 with h1 _ h3
              injection h1 with h1; injection h1 with h1 _
              subst h1
              rw [cell_of_row wr gb j cur 77 (0, 0) hh9, frozen_of_row wr gb j cur 77 hh9]
              have : n * 3 ≤ cap * 3 := Nat.mul_le_mul_right _ hc9
              rw [Array.getElem?_eq_getElem (by omega)]
              exact ⟨rfl, rfl⟩
          have ff1 := (hcl (k * 3 + 1) (by omega)).2
          have ff2 := (hcl (k * 3 + 2) (by omega)).2
          have hs1 := (World.ownsRow.stored HV.out (k * 3 + 1) (.pointer none)).1
          have hs2 := (World.ownsRow.stored hs1 (k * 3 + 2) (.bool true)).1
          have es := enc_set (P.map (Mb.tk dz now)) ⟨tg, some b, l⟩ R
          rw [HX.out] at es
          rw [es] at hs2
          have hgbl := (own_lt HV.out gb rfl)
          have hgw : gb < w.heap.size := (own_lt HV0.out gb rfl).2
          obtain ⟨wS, hwS⟩ : ∃ wS, (wr.setCell ⟨gb, k * 3 + 1, none⟩ (.pointer none)).setCell ⟨gb, k * 3 + 2, none⟩ (.bool true) = wS := ⟨_, rfl⟩
          have HQS : Hid (Only [gb] w wS) := hid (by rw [← hwS]; exact (HQ.out.setCell (p := ⟨gb, k * 3 + 1, none⟩) (Or.inl (by simp [Value.ownBlock])) _).setCell (p := ⟨gb, k * 3 + 2, none⟩) (Or.inl (by simp [Value.ownBlock])) _)
          have HOS : Hid (Ob wS g 46 #[.slice (some ⟨gb, 0, none⟩) n c]) := hid (by
            have hne : g ≠ gb := fun e => ob_own HO.out HV.out (by decide) (by rw [e]; rfl)
            rw [← hwS]; exact (HO.out.far (p := ⟨gb, k * 3 + 1, none⟩) hne _).far (p := ⟨gb, k * 3 + 2, none⟩) hne _)
          have HDS : Hid (Dues wS dz M) := hid (fun x hx q hq => by
            have h0 := HD.out x hx q hq
            have hne : q ≠ gb := fun e => ob_own h0 HV.out (by decide) (by rw [e]; rfl)
            rw [← hwS]; exact (h0.far (p := ⟨gb, k * 3 + 1, none⟩) hne _).far (p := ⟨gb, k * 3 + 2, none⟩) hne _)
          have oS : Only [gb] wr wS := by rw [← hwS]; exact ((Only.refl [gb] wr).setCell (p := ⟨gb, k * 3 + 1, none⟩) (Or.inl (by simp)) _).setCell (p := ⟨gb, k * 3 + 2, none⟩) (Or.inl (by simp)) _
          have HUS : Hid (wS.ownsRow w.heap.size 25 3 u (rpt dz now P).length (rws ign (rpt dz now P))) := hid (own_only HU.out oS (fun j hj hm => by
            have h1 := (own_lt HU.out j hj).1
            have : j = gb := by simpa using hm
            omega))
          rw [hwS] at hs2
          have HVS := hid hs2
          obtain ⟨_, _, ev, -, -, -, hr, -, -⟩ := RdS.of_own HVS.out (rws_one enc_one _)
          injection ev with ev1 ev2 ev3; clear ev2; subst ev3
          subst ev1
          obtain ⟨s0, _, _⟩ := mid_cell (m := ⟨tg, none, true⟩) hr (by rw [List.length_append, List.length_cons, ← List.length_cons (a := (⟨tg, some b, l⟩ : Mb)), ← List.length_append]; exact HXn.out) HX.out
          replace s0 : wS.cell? ⟨gb, k * 3, none⟩ = some (.int .u32 tg) := s0
          clear hr hs1 hs2 es oS c0
          have q7 : Only [] wS (wS.alloc (.cells #[.int .i64 22, .int .i64 0, .int .u32 tg] 25)) := (Only.refl [] wS).alloc _
          have HUA := hid (own_only_nil HUS.out q7)
          have HVA := hid (own_only_nil HVS.out q7)
          have HOne := hid (rdS_ign wS tg)
          have HPl : Hid ((rpt dz now P).length ≤ 16) := hid (Nat.le_trans (rpt_le dz now P) (by rw [HP.out]; omega))
          have hpl := HPl.out
          have hsz : w.heap.size ≤ (wS.alloc (.cells #[.int .i64 22, .int .i64 0, .int .u32 tg] 25)).heap.size := Nat.le_trans HQS.out.size q7.size
          have HF := hid hf; have HT := hid ht
          clear hf ht hcl hgbl q7 HO HV HU HD HQ HV0 HO0 HD0 HFA HNm HXn HX HIN HM HP
          go_wp2_with (at_builtin; refine wpList_appS _ rfl (.tmp 45) (.tmp 51) _ rfl elemG w.heap.size u (rpt dz now P).length (rws ign (rpt dz now P)) rfl HUA.out (some ⟨wS.heap.size, 0, none⟩) 1 1 (ign tg) rfl HOne.out (by intro e; cases e) (.inr ⟨_, _, rfl⟩) (by omega) (by unfold maxLen; omega) hsz ?_)
          intro v7 w7 hv7 hg7 hb7
          have hgn : u.ownBlock ≠ some gb := fun e => by have := (own_lt HUA.out gb e).1; omega
          have oG : Only u.ownBlock.toList (wS.alloc (.cells #[.int .i64 22, .int .i64 0, .int .u32 tg] 25)) w7 := (Only.refl _ _).of_grown hg7 (fun j hj => .inl (by rw [hj]; simp))
          have HO7 : Hid (Ob w7 g 46 #[.slice (some ⟨gb, 0, none⟩) n c]) := hid ((HOS.out.alloc _).grown hg7 (ob_own (HOS.out.alloc _) HUA.out (by decide)))
          have HD7 : Hid (Dues w7 dz M) := hid (fun x hx q hq => ((HDS.out x hx q hq).alloc _).grown hg7 (ob_own ((HDS.out x hx q hq).alloc _) HUA.out (by decide)))
          have HV7 : Hid (w7.ownsRow base 77 3 (.slice (some ⟨gb, 0, none⟩) n c) n (rws Mb.enc ((P ++ [(⟨tg, some b, l⟩ : Mb)]).map (Mb.tk dz now) ++ R))) := hid (by
            rw [List.map_append, List.map_cons, List.map_nil, HT.out, List.append_assoc]
            exact own_only HVA.out oG (fun j hj hm => hgn (by rw [show gb = j from by simpa [Value.ownBlock] using hj]; simpa using hm)))
          have HU7 : Hid (w7.ownsRow w.heap.size 25 3 v7 (rpt dz now (P ++ [(⟨tg, some b, l⟩ : Mb)])).length (rws ign (rpt dz now (P ++ [(⟨tg, some b, l⟩ : Mb)])))) := hid (by
            rw [rpt_yes HF.out, List.length_append, rws_app]
            simpa [rws] using hv7)
          have HQ7 : Hid (Only [gb] w w7) := hid ((HQS.out.alloc _).of_grown hg7 (fun j hj => .inr (own_lt HUA.out j hj).1))
          clear hv7 hg7 hb7 oG hgn
          go_wp2_with fail
          go_roundw
          case rel => exact ⟨k + 1, P ++ [⟨tg, some b, l⟩], R, v7, rfl, by first | rfl | go_num, HM1, HP1, by omega, HO7, HV7, HU7, HD7, HQ7⟩
          case measure => simp [RowKit.intOf]; omega
        · have hf : Mb.fires dz now ⟨tg, some b, l⟩ = false := by show decide (dz b ≤ now) = false; exact decide_eq_false hz
          have ht : Mb.tk dz now ⟨tg, some b, l⟩ = ⟨tg, some b, l⟩ := by unfold Mb.tk; rw [hf]; rfl
          have HV1 : Hid (wr.ownsRow base 77 3 (.slice (some ⟨gb, 0, none⟩) n c) n (rws Mb.enc ((P ++ [(⟨tg, some b, l⟩ : Mb)]).map (Mb.tk dz now) ++ R))) := hid (by rw [List.map_append, List.map_cons, List.map_nil, ht, List.append_assoc]; exact HV.out)
          have HU1 : Hid (wr.ownsRow w.heap.size 25 3 u (rpt dz now (P ++ [(⟨tg, some b, l⟩ : Mb)])).length (rws ign (rpt dz now (P ++ [(⟨tg, some b, l⟩ : Mb)])))) := hid (by rw [rpt_no hf]; exact HU.out)
          clear hf ht
          go_wp2_with fail
          go_roundw
          case rel => exact ⟨k + 1, P ++ [⟨tg, some b, l⟩], R, u, rfl, by first | rfl | go_num, HM1, HP1, by omega, HO, HV1, HU1, HD, HQ⟩
          case measure => simp [RowKit.intOf]; omega
end Go.Proofs.Ytodcjokafjdhdaa.igm
