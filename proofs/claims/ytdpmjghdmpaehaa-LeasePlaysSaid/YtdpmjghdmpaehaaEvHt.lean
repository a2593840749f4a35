/-
  What is appended from a row of which the end is not known. Conditions: none.
-/
import Derived.Test.YtdpmjghdmpaehaaEvHs
namespace Go.Proofs.Ytdpmjghdmpaehaa.ev
set_option linter.unusedVariables false
set_option linter.unusedSimpArgs false
variable {P : Program} {N : Nat} {β : Mp}
/-- The cells from a place on, so many as the length (q, d) says (l at least). -/
def symC (o q l d : Nat) : Cs → Option Cs
  | .sym a _ _ _ => some (.sym (a + o) q d l)
  | .cat n (.leaf ys) (.sym a _ _ _) => match Nat.ble n o with
    | true => some (.sym (a + (o - n)) q d l)
    | false => match Nat.ble (n - o) l with
      | true => some (.cat (n - o) (.leaf (ys.drop o)) (.sym a q (subD d (n - o)) (l - (n - o))))
      | false => none
  | .app (.sym a q0 d0 m) _ => match Nat.beq q q0 && (Nat.beq d (subD d0 o) && Nat.ble o m) with
    | true => some (.sym (a + o) q d l)
    | false => none
  | _ => none
theorem symC_ok [Env] {o q l d : Nat} {C X : Cs} (hok : C.ok) (h : symC o q l d C = some X) (hl : l ≤ lenS q d) (hfit : o + lenS q d ≤ C.list.length) : X.ok ∧ X.list = (C.list.drop o).take (lenS q d) := by
  unfold symC at h
  split at h
  · rename_i a q0 d0 m
    simp only [Option.some.injEq] at h; subst h
    simp only [Cs.list, opqs_length] at hfit
    exact ⟨hl, by simp only [Cs.list]; rw [opqs_sub _ _ _ _ hfit]⟩
  · rename_i n ys a q0 d0 m
    obtain ⟨h1, _, _⟩ := hok
    simp only [Cs.list] at h1
    simp only [Cs.list, List.length_append, opqs_length] at hfit
    split at h
    · rename_i hb
      have hb := Nat.le_of_ble_eq_true hb
      simp only [Option.some.injEq] at h; subst h
      refine ⟨hl, ?_⟩
      simp only [Cs.list]
      rw [List.drop_append, List.drop_eq_nil_of_le (by omega), List.nil_append, ← h1, opqs_sub _ _ _ _ (by omega)]
    · rename_i hb
      have hb := ble_false hb
      split at h
      · rename_i hc
        have hc := Nat.le_of_ble_eq_true hc
        simp only [Option.some.injEq] at h; subst h
        refine ⟨⟨by simp only [Cs.list, List.length_drop]; omega, trivial, ?_⟩, ?_⟩
        · show l - (n - o) ≤ lenS q (subD d (n - o))
          rw [lenS_sub]; omega
        · simp only [Cs.list]
          rw [lenS_sub, List.drop_append_of_le_length (by omega), List.take_append, List.take_of_length_le (by rw [List.length_drop]; omega)]
          congr 1
          have := opqs_sub a (lenS q0 d0) 0 (lenS q d - (n - o)) (by omega)
          rw [List.drop_zero] at this
          rw [List.length_drop, ← h1, this, Nat.add_zero]
      · cases h
  · rename_i a q0 d0 m xs
    split at h
    · rename_i hb
      simp only [Bool.and_eq_true] at hb
      have h1 := Nat.of_beq hb.1
      have h2 := Nat.of_beq hb.2.1
      have h3 := Nat.le_of_ble_eq_true hb.2.2
      simp only [Option.some.injEq] at h; subst h
      subst h1 h2
      refine ⟨hl, ?_⟩
      have h4 : m ≤ lenS q d0 := hok
      simp only [Cs.list]
      rw [lenS_sub, List.drop_append_of_le_length (by rw [opqs_length]; omega), List.take_append_of_le_length (by rw [List.length_drop, opqs_length]; omega), opqs_sub _ _ _ _ (by omega)]
    · cases h
  · cases h
def symOf (o q l d : Nat) : Ao → Option Cs
  | .row C _ _ => symC o q l d C
  | _ => none
/-- A row with cells ahead of it. -/
def catC (olds : List Value) : Cs → Cs
  | .cat n (.leaf ys) X => .cat (olds.length + n) (.leaf (olds ++ ys)) X
  | C => .cat olds.length (.leaf olds) C
theorem catC_ok [Env] {olds : List Value} {C : Cs} (h : C.ok) : (catC olds C).ok ∧ (catC olds C).list = olds ++ C.list ∧ (catC olds C).isSym = false := by
  unfold catC
  split
  · rename_i n ys X
    obtain ⟨h1, _, h3⟩ := h
    simp only [Cs.list] at h1
    exact ⟨⟨by simp only [Cs.list, List.length_append]; omega, trivial, h3⟩, by simp only [Cs.list, List.append_assoc], rfl⟩
  · exact ⟨⟨rfl, trivial, h⟩, rfl, rfl⟩
/-- What stands in the row that is appended to, and whether it may have hidden room. -/
def oldRow (P : Program) (e : TypeId) (o l : Nat) : Ao → Option (List Value × Bool)
  | .row C te g => match Nat.beq (C.sub o l).length l with
    | true => match g with
      | true => match szOf P te with
        | some z => match (Nat.beq z 1 && notSym C) && Nat.beq te e with
          | true => some (C.sub o l, true)
          | false => none
        | none => none
      | false => some (C.sub o l, false)
    | false => none
  | _ => none
/-- Is each of them one cell? -/
def onesC : Cs → Bool
  | .sym _ _ _ _ => true
  | .cat _ (.leaf ys) (.sym _ _ _ _) => ones ys
  | _ => false
theorem opqs_ones (a k : Nat) : ones (opqs a k) = true := by
  unfold ones opqs
  rw [List.all_eq_true]
  intro v hv
  obtain ⟨j, _, rfl⟩ := List.mem_map.1 hv
  rfl
theorem onesC_ok [Env] {X : Cs} (h : onesC X = true) : ones X.list = true := by
  unfold onesC at h
  split at h
  · exact opqs_ones _ _
  · simp only [Cs.list]
    have := opqs_ones
    unfold ones at h this ⊢
    rw [List.all_append, h, this]; rfl
  · cases h
def appTo (P : Program) (A : AppT) (X : Cs) (q l d : Nat) : Value → Comp Value
  | .slice none 0 0 => bind (nw (.row (catC [] X) A.e false)) fun k => ret (.slice (some ⟨k, 0, some (q + 1)⟩) l d)
  | .slice (some ⟨i, o', none⟩) l' c => bind (rd i) fun bo => bind (ofOpt (oldRow P A.e o' l' bo)) fun r =>
      gd ((Nat.beq (d % 2) 0 || Nat.beq l' 0) && (Nat.ble l' (2 ^ 40) && Nat.blt c (l' + l)))
        (br r.2
          (bind (wr i none) fun _ => bind (nw (.row (catC r.1 X) A.e false)) fun k => ret (.slice (some ⟨k, 0, some (q + 1)⟩) (l' + l) (d + 2 * l')))
          (bind (nw (.row (catC r.1 X) A.e false)) fun k => ret (.slice (some ⟨k, 0, some (q + 1)⟩) (l' + l) (d + 2 * l'))))
  | _ => fail
def evAppS (P : Program) (t tx : TypeId) (s : Value) (j o q l d : Nat) : Comp Value :=
  match appT P t tx with
  | none => fail
  | some A => gd (Nat.beq A.i.size 1 && (Nat.beq A.i.bytes 1 && (Nat.blt 0 l && Nat.ble d (2 ^ 40))))
      (bind (rd j) fun ao => bind (ofOpt (symOf o q l d ao)) fun X => gd (onesC X) (appTo P A X q l d s))
/-- A new row that is known as it stands. -/
theorem Sim.grownS [Env] {h h' : Tr} {w : World} (hs : Sim P N β h w) (hN : N ≤ w.heap.size) {c : Nat} {C : Cs} {vs : List Value} {e : TypeId} (zc : Array Value)
    (hset : Tr.set dep h c (some (.row C e false)) = some h') (hf : β c = none) (hok : C.ok) (hp : PW β C.list vs) :
    ∃ β', Ext c (c + 1) β β' ∧ Sim P N β' h' (w.drew.alloc (.cells (vs.toArray ++ zc) e)) ∧ β' c = some ⟨w.heap.size, 0, C.list.length, zc.size, 0⟩ := by
  have hs' : Sim P N β h w.drew := hs.heap rfl
  have hb := heap_alloc_new w.drew (.cells (vs.toArray ++ zc) e)
  obtain ⟨e1, e2, e3⟩ := hs'.alloc hN hset hf ⟨w.heap.size, 0, C.list.length, zc.size, 0⟩ rfl (.cells (vs.toArray ++ zc) e) (fun β' hb' => by
    refine ⟨hok, vs, hp.mono hb', rfl, fun j v hv => ?_, .inr fun j hj => ?_, fun _ => ⟨.inr rfl, .inr rfl⟩, (fun h => by cases h), .inr ⟨_, _, _, hb, rfl, .inl rfl⟩⟩
    · rw [Nat.zero_add]
      show World.cell? _ ⟨w.drew.heap.size, j, none⟩ = _
      rw [cell_of_row _ _ _ _ _ _ hb]
      have hj : j < vs.length := (List.getElem?_eq_some_iff.1 hv).1
      rw [Array.getElem?_append_left (by simpa using hj)]
      simpa using hv
    · rw [Nat.zero_add]
      show (World.cell? _ ⟨w.drew.heap.size, j, none⟩).isSome = true ∧ World.frozen? _ ⟨w.drew.heap.size, j, none⟩ = false
      rw [cell_of_row _ _ _ _ _ _ hb, frozen_of_row _ _ _ _ _ hb]
      refine ⟨?_, rfl⟩
      have hl := hp.1
      have hj' : j < (vs.toArray ++ zc).size := by rw [Array.size_append, List.size_toArray]; simp only at hj; omega
      rw [Array.getElem?_eq_getElem hj']
      rfl)
  exact ⟨_, e1, e2, e3⟩
set_option maxHeartbeats 2000000 in
theorem evAppS_ok [Env] {t tx ty : TypeId} {s s' x' : Value} {j o q l d : Nat} (hsv : VR β s s') (hx : VR β (.slice (some ⟨j, o, some (q + 1)⟩) l d) x') : RunS P N β (evAppS P t tx s j o q l d) (Builtin.append_ #[t, tx] ty #[s', x']) := by
  unfold evAppS
  split
  · exact RunS.fail
  rename_i A hA
  obtain ⟨hk, hu, hi, hz, hzs, h0⟩ := appT_ok hA
  intro c h ou w he hs hN hfr
  obtain ⟨hb, he⟩ := gd_some he
  simp only [Bool.and_eq_true] at hb
  have b1 := Nat.of_beq hb.1
  have b2 := Nat.of_beq hb.2.1
  have b3 := blt_true hb.2.2.1
  have b4 := Nat.le_of_ble_eq_true hb.2.2.2
  obtain ⟨o1, q1, ho1, hq1, rfl⟩ := bind_some he
  obtain ⟨r1, g1⟩ := rd_some ho1
  obtain ⟨o2, q2, ho2, hq2, rfl⟩ := bind_some hq1
  obtain ⟨X, hX, rfl⟩ := ofOpt_some ho2
  have ec : o1.c = c := by rw [r1]
  have eh : o1.h = h := by rw [r1]
  simp only [ec, eh] at hq2
  obtain ⟨hX1, hq2⟩ := gd_some hq2
  generalize o1.a = ao at hX g1
  clear ho1 r1
  cases hx with
  | @ssl _ Ix ax _ _ _ _ Cx hβx k1 k2 k3 k4 k5 k6 =>
    obtain ⟨Ix', hIx, _, hltx, hobx⟩ := hs.obj j ao g1
    rw [hβx] at hIx; cases hIx
    cases ao with
    | map es clk => cases hX
    | iter q0 p0 => cases hX
    | mapIt q0 q1 q2 q3 => cases hX
    | row C te g =>
      obtain ⟨hok, ws, hpw, hcl, hra, _, _, _⟩ := hobx
      obtain ⟨hXok, hXl⟩ := symC_ok hok hX k1 (by rw [hcl]; exact k3)
      -- what is appended
      have hpx : PW β X.list ((ws.drop o).take (lenS q d)) := by rw [hXl]; exact (hpw.drop o).take _
      have hXlen : X.list.length = lenS q d := by rw [hXl, List.length_take, List.length_drop, hcl]; omega
      obtain ⟨us, hus⟩ : ∃ us, us = (ws.drop o).take (lenS q d) := ⟨_, rfl⟩
      rw [← hus] at hpx
      have hul : us.length = lenS q d := by rw [← hpx.1]; exact hXlen
      have hn0 : 0 < lenS q d := by omega
      have hax : ax = ⟨Ix.blk, Ix.base + o, none⟩ := by
        rcases k6 with k6 | k6
        · exact k6
        · omega
      subst hax
      have hlen : ∀ w, (Builtin.lenOf (.slice (some ⟨Ix.blk, Ix.base + o, none⟩) (lenS q d) Cx)).run P w = .ok (lenS q d) w := fun w => by simp [Builtin.lenOf]
      have hcells : ∀ W : World, W.heap = w.heap → (Builtin.firstCells A.i.size (lenS q d) (.slice (some ⟨Ix.blk, Ix.base + o, none⟩) (lenS q d) Cx)).run P W = .ok us.toArray W := fun W hW => by
        obtain ⟨m, hm⟩ : ∃ m, lenS q d = m + 1 := ⟨lenS q d - 1, by omega⟩
        rw [b1, hm]
        refine run_firstCells_some (P := P) W 1 (m + 1) _ (m + 1) Cx _ (by rw [hul, hm]; omega) (fun jj u hu' => ?_)
        rw [Addr.add_mid]
        rw [hus] at hu'
        have := range_sub hra jj u hu'
        rw [World.cell?_of_block (w := w) (by rw [hW])]
        exact this
      have hlb : lenS q d ≤ 2 ^ 40 + 2 ^ 40 := by
        unfold lenS
        split <;> omega
      cases hsv with
      | nils sl sc =>
        cases sl with
        | succ sl => simp [appTo, fail] at hq2
        | zero =>
        cases sc with
        | succ sc => simp [appTo, fail] at hq2
        | zero =>
          simp only [appTo] at hq2
          obtain ⟨o3, q3, ho3, hq3, rfl⟩ := bind_some hq2
          obtain ⟨h', rfl, hset⟩ := nw_some ho3
          simp only [ev.ret, Option.some.injEq] at hq3; subst hq3
          obtain ⟨c1, c2, c3⟩ := catC_ok (olds := []) hXok
          have hrun := run_app_grow (P := P) (ty := ty) (w := w) hu hk hi hz (s := .slice none 0 0) rfl hlen hcells (olds := []) (fun W _ => by simpa using firstCells_zero (sz := A.i.size) (a := none) (l := 0) (c := 0) W) (by omega) (by omega) (by rw [Nat.zero_add, b2]; omega)
          have hge := grownCap_ge w (lenS q d) 0 A.e
          simp only [Nat.zero_add] at hrun
          obtain ⟨β', e1, e2, e3⟩ := hs.grownS hN (C := catC [] X) (vs := us) (Builtin.zeroCells A.z.cells (grownCap w (lenS q d) 0 A.e - lenS q d)) hset (hfr c (Nat.le_refl _) (by simp)) c1 (by rw [c2]; exact hpx)
          refine ⟨_, _, β', hrun, e1, by simpa using e2, ?_, Keep.grown w hN _⟩
          refine .ssl 0 q l d _ e3 k1 hge ?_ k4 k5 (.inl rfl) ?_
          · rw [c2]; simp [hXlen]
          · have hcl : (catC [] X).list.length = lenS q d := by rw [c2]; simp [hXlen]
            show 0 + grownCap w (lenS q d) 0 A.e ≤ (catC [] X).list.length + (Builtin.zeroCells A.z.cells (grownCap w (lenS q d) 0 A.e - lenS q d)).size
            rw [size_zeroCells, hzs, b1, hcl]; omega
      | @sl i I a' o' l' cc c' hβ s1 s2 s3 s4 =>
          simp only [appTo] at hq2
          obtain ⟨o3, q3, ho3, hq3, rfl⟩ := bind_some hq2
          obtain ⟨r3, g3⟩ := rd_some ho3
          obtain ⟨o4, q4, ho4, hq4, rfl⟩ := bind_some hq3
          obtain ⟨r, hr, rfl⟩ := ofOpt_some ho4
          have ec : o3.c = c := by rw [r3]
          have eh : o3.h = h := by rw [r3]
          simp only [ec, eh] at hq4
          generalize o3.a = bo at hr g3
          clear ho3 r3
          obtain ⟨hb', hq4⟩ := gd_some hq4
          simp only [Bool.and_eq_true, Bool.or_eq_true] at hb'
          obtain ⟨d1, d2, d4⟩ := hb'
          have d2 := Nat.le_of_ble_eq_true d2
          have d4 := blt_true d4
          have hd : lenS q (d + 2 * l') = lenS q d + l' := by
            rcases d1 with d1 | d1
            · exact lenS_add _ _ _ (Nat.of_beq d1)
            · rw [Nat.of_beq d1]; rfl
          obtain ⟨I', hI, hN', hlt, hob⟩ := hs.obj i bo g3
          rw [hβ] at hI; cases hI
          cases bo with
          | map es clk => cases hr
          | iter q0 p0 => cases hr
          | mapIt q0 q1 q2 q3 => cases hr
          | row D te' g' =>
            obtain ⟨hok', ws', hpw', hcl', hra', hth, hg0, hg1⟩ := hob
            simp only [oldRow] at hr
            split at hr
            rotate_left
            · cases hr
            rename_i hold
            have hold := Nat.of_beq hold
            have hs0 := Cs.sub_ok D _ _ hok' hold
            rw [hs0] at hold hr
            generalize hcs : D.list = cs at hpw' hcl' hr hold
            have hpo := (hpw'.drop o').take l'
            obtain ⟨c1, c2, c3⟩ := catC_ok (olds := (cs.drop o').take l') hXok
            have hnew : PW β (catC ((cs.drop o').take l') X).list ((ws'.drop o').take l' ++ us) := by rw [c2]; exact hpo.append hpx
            have hnl : (catC ((cs.drop o').take l') X).list.length = l' + lenS q d := by rw [c2, List.length_append, hold, hXlen]
            have holds : ∀ W : World, W.heap = w.heap → (Builtin.firstCells A.i.size l' (.slice (some a') l' c')).run P W = .ok ((ws'.drop o').take l').toArray W := fun W hW => by
              cases l' with
              | zero => simpa using firstCells_zero (sz := A.i.size) (a := some a') (l := 0) (c := c') W
              | succ l' =>
                have ha : a' = ⟨I.blk, I.base + o', none⟩ := by
                  rcases s4 with s4 | s4
                  · exact s4
                  · omega
                subst ha
                rw [b1]
                refine run_firstCells_some (P := P) W 1 (l' + 1) _ (l' + 1) c' _ (by rw [← hpo.1, hold]; omega) (fun jj u hu' => ?_)
                rw [Addr.add_mid]
                have := range_sub hra' jj u hu'
                rw [World.cell?_of_block (w := w) (by rw [hW])]
                exact this
            have grow : ∀ (hh : Tr) (cc0 : Nat) (hh' : Tr), Sim P N β hh w → β cc0 = none → c' < l' + lenS q d → Tr.set dep hh cc0 (some (.row (catC ((cs.drop o').take l') X) A.e false)) = some hh' →
                ∃ v' w' β', (Builtin.append_ #[t, tx] ty #[.slice (some a') l' c', .slice (some ⟨Ix.blk, Ix.base + o, none⟩) (lenS q d) Cx]).run P w = .ok v' w' ∧ Ext cc0 (cc0 + 1) β β' ∧ Sim P N β' hh' w' ∧ VR β' (.slice (some ⟨cc0, 0, some (q + 1)⟩) (l' + l) (d + 2 * l')) v' ∧ Keep N w w' := fun hh cc0 hh' hsim hfc hlt' hset => by
              have hrun := run_app_grow (P := P) (ty := ty) (w := w) hu hk hi hz (s := .slice (some a') l' c') rfl hlen hcells holds hlt' (by omega) (by rw [b2]; omega)
              have hge := grownCap_ge w (l' + lenS q d) c' A.e
              obtain ⟨β', e1, e2, e3⟩ := hsim.grownS hN (Builtin.zeroCells A.z.cells (grownCap w (l' + lenS q d) c' A.e - (l' + lenS q d))) hset hfc c1 hnew
              refine ⟨_, _, β', hrun, e1, ?_, ?_, Keep.grown w hN _⟩
              · have ea : (((ws'.drop o').take l').toArray ++ us.toArray) = ((ws'.drop o').take l' ++ us).toArray := by simp
                rw [ea]; exact e2
              · have := VR.ssl (β := β') (a' := ⟨w.heap.size, 0, none⟩) 0 q (l' + l) (d + 2 * l') (grownCap w (l' + lenS q d) c' A.e) e3 (by omega) (by omega) (by simp only [hnl]; omega) k4 k5 (.inl rfl) (by simp only [hnl]; rw [size_zeroCells, hzs, b1]; omega)
                rwa [hd, Nat.add_comm (lenS q d) l'] at this
            split at hr
            · -- it may have hidden room
              split at hr
              · rename_i z hz2
                split at hr
                · rename_i hzb
                  rw [Bool.and_eq_true, Bool.and_eq_true] at hzb
                  have hte := Nat.of_beq hzb.2
                  have hzsz := Nat.of_beq hzb.1.1
                  have hns := notSym_ok hzb.1.2
                  have hth := nosym hns hth
                  have hN' := nosym hns hN'
                  simp only [Option.some.injEq] at hr; subst hr
                  replace hq4 := (br_some hq4).resolve_right (fun e => by cases e.1)
                  obtain ⟨_, hq4⟩ := hq4
                  obtain ⟨o5, q5, ho5, hq5, rfl⟩ := bind_some hq4
                  obtain ⟨h1', rfl, hset1⟩ := wr_some ho5
                  obtain ⟨o6, q6, ho6, hq6, rfl⟩ := bind_some hq5
                  obtain ⟨h2', rfl, hset2⟩ := nw_some ho6
                  simp only [ev.ret, Option.some.injEq] at hq6; subst hq6
                  have hfc : β c = none := hfr c (Nat.le_refl _) (by simp)
                  have hsk := hs.kill i hset1
                  by_cases hcap : c' < l' + lenS q d
                  · exact grow h1' c h2' hsk hfc hcap hset2
                  · -- in place
                    have hcap : l' + lenS q d ≤ c' := by omega
                    obtain ⟨hI1, hI0⟩ := hg1.1 rfl
                    have hIsz : I.sz = 1 := by
                      have : some I.sz = some z := hI1.symm.trans hz2
                      simp only [Option.some.injEq] at this
                      omega
                    have ha : a' = ⟨I.blk, I.base + o', none⟩ := by
                      rcases s4 with s4 | s4
                      · exact s4
                      · omega
                    subst ha
                    rcases s3 with s3 | ⟨t1, t2, t3⟩
                    · omega
                    rw [hIsz, Nat.mul_one] at t2 t3
                    have hth' : w.there I.blk (I.base + o' + l' * A.i.size) us.length := by
                      rw [b1, Nat.mul_one, Nat.add_assoc]
                      exact there_sub hth (by rw [hul]; omega)
                    have hones : ∀ u ∈ us, u.oneCell' = true := hpx.oneCell (onesC_ok hX1)
                    have hrun := run_app_room (P := P) (ty := ty) hu hk hi hlen hcells hones hcap hth'
                    rw [b1, Nat.mul_one] at hrun hth'
                    let J : Im := ⟨I.blk, I.base + o', l' + lenS q d, I.n + I.room - o' - (l' + lenS q d), 0⟩
                    let β' : Mp := fun k => if k = c then some J else β k
                    have hb' : ∀ k K, β k = some K → β' k = some K := fun k K hk' => by
                      show (if k = c then some J else β k) = some K
                      rw [if_neg (by rintro rfl; rw [hfc] at hk'; cases hk')]; exact hk'
                    have hJ : β' c = some J := if_pos rfl
                    have hfar : ∀ k o' K, Tr.get dep h1' k = some o' → β k = some K → K.blk ≠ I.blk := fun k o' K hk' hK => by
                      rw [hset1] at hk'
                      split at hk'
                      · cases hk'
                      · rename_i hne
                        exact hs.far (o := .row D te' true) hns hk' g3 hK hβ hne
                    refine ⟨_, _, β', hrun, ⟨hb', fun k hk' => ?_⟩, ?_, ?_, Keep.setCells _ hN' _ _ _⟩
                    · by_cases e : k = c
                      · simp only; omega
                      · exact absurd (if_neg e) hk'
                    · refine hsk.upd (by rw [size_setCells']; exact Nat.le_refl _) c _ (Tr.get_set _ _ _ _ _ hset2) hb' (fun ob he => ?_) (fun k o' K hk' hk2 hK => ?_)
                      · cases he
                        refine ⟨J, hJ, hN', by rw [size_setCells']; exact hlt, ⟨c1, (ws'.drop o').take l' ++ us, hnew.mono hb', hnl, ?_, .inr ?_, fun _ => ⟨.inr rfl, .inl (by rw [hi]; simp [b1])⟩, (fun hh => by cases hh), .inr (FZ.setCells _ _ (hte ▸ nosym hns hg1.2))⟩, fun k o' K hk' hk2 hK => hfar k o' K hk2 hK⟩
                        · show (w.setCells I.blk (I.base + o' + l') us).rangeAt I.blk (I.base + o') _
                          intro jj v hv
                          rw [List.getElem?_append] at hv
                          have hwl : ((ws'.drop o').take l').length = l' := by rw [← hpo.1]; exact hold
                          split at hv
                          · have h6 : w.rangeAt I.blk (I.base + o') ((ws'.drop o').take l') := range_sub hra'
                            exact World.rangeAt_setCells_apart h6 _ _ us (.inr (.inl (by rw [hwl]; omega))) jj v hv
                          · rename_i hj
                            rw [hwl] at hv hj
                            have := World.rangeAt_setCells_same w I.blk (I.base + o' + l') us hth' _ v hv
                            rwa [show I.base + o' + l' + (jj - l') = I.base + o' + jj from by omega] at this
                        · show (w.setCells I.blk (I.base + o' + l') us).there I.blk (I.base + o') (l' + lenS q d + (I.n + I.room - o' - (l' + lenS q d)))
                          refine World.there_setCells (there_sub hth ?_) _ _ _
                          omega
                      · exact heap_setCells_other _ _ (hfar k o' K hk2 hK) _ _ _
                    · have := VR.ssl (β := β') (a' := ⟨I.blk, I.base + o', none⟩) 0 q (l' + l) (d + 2 * l') c' hJ (by omega) (by omega) (by simp only [J]; omega) k4 k5 (.inl rfl) (by simp only [J]; omega)
                      rwa [hd, Nat.add_comm (lenS q d) l'] at this
                · cases hr
              · cases hr
            · -- it has none
              simp only [Option.some.injEq] at hr; subst hr
              replace hq4 := (br_some hq4).resolve_left (fun e => by cases e.1)
              obtain ⟨_, hq4⟩ := hq4
              obtain ⟨o6, q6, ho6, hq6, rfl⟩ := bind_some hq4
              obtain ⟨h2', rfl, hset2⟩ := nw_some ho6
              simp only [ev.ret, Option.some.injEq] at hq6; subst hq6
              have hfc : β c = none := hfr c (Nat.le_refl _) (by simp)
              have hcc : c' = cc := by
                rcases s3 with s3 | ⟨t1, t2, t3⟩
                · exact s3
                · rcases (hg0 rfl).1 with hr0 | hr0
                  rotate_left
                  · omega
                  rw [hr0] at t3
                  have : c' * I.sz ≤ cc * I.sz := by omega
                  have := Nat.le_of_mul_le_mul_right this t1
                  omega
              exact grow h c h2' hs hfc (by omega) hset2
      | _ => simp [appTo, fail] at hq2
def evAppA (P : Program) (t tx : TypeId) (s x : Value) : Comp Value :=
  match x with
  | .slice (some ⟨j, o, some (q + 1)⟩) l d => evAppS P t tx s j o q l d
  | x => match s with
    | .slice (some ⟨i, o, some s'⟩) l d => match appT P t tx with
      | some _ => match lenV x with
        | some 0 => match x with
          | .slice _ _ _ => ret (.slice (some ⟨i, o, some s'⟩) l d)
          | _ => fail
        | _ => fail
      | none => fail
    | s => evApp P t tx s x
theorem evAppA_ok [Env] {t tx ty : TypeId} {s x s' x' : Value} (hsv : VR β s s') (hx : VR β x x') : RunS P N β (evAppA P t tx s x) (Builtin.append_ #[t, tx] ty #[s', x']) := by
  unfold evAppA
  split
  · exact evAppS_ok hsv hx
  · split
    · split
      · rename_i A hA
        obtain ⟨hk, hu, hi, _, _, _⟩ := appT_ok hA
        split
        · rename_i hn
          have hlen := fun w => lenV_ok (P := P) hx hn w
          split
          · obtain ⟨a2, c2', rfl, _⟩ := hx.slice_form (lenV_known hn)
            cases hsv with
            | @ssl _ I a' o q l d C hβ k1 k2 k3 k4 k5 k6 k7 => exact RunS.pure (.ssl _ _ _ _ C hβ k1 k2 k3 k4 k5 k6 k7) (fun w => run_app_none hu hk hi hlen (firstCells_zero w) k2)
            | @ksl _ I a' o l c C hβ k1 k2 k3 => exact RunS.pure (.ksl _ _ _ C hβ k1 k2 k3) (fun w => run_app_none hu hk hi hlen (firstCells_zero w) k1)
          · exact RunS.fail
        · exact RunS.fail
      · exact RunS.fail
    · exact evApp_ok hsv hx
/-! ### Copies -/
def srcS (n : Nat) : Value → Comp (List Value)
  | .slice (some ⟨j, o, some (q + 1)⟩) l _ => gd (Nat.ble n l) (bind (rd j) fun ao => ofOpt (cutCells o n ao))
  | _ => fail
theorem srcS_ok [Env] {n : Nat} {x x' : Value} (hx : VR β x x') {c : Nat} {h : Tr} {w : World} {o : Out (List Value)} (he : srcS n x c h = some o) (hs : Sim P N β h w) (h0 : 0 < n) :
    o.c = c ∧ o.h = h ∧ ∃ a' L C us, x' = .slice (some a') L C ∧ n ≤ L ∧ PW β o.a us ∧ ∀ W : World, W.heap = w.heap → (Builtin.firstCells 1 n x').run P W = .ok us.toArray W := by
  unfold srcS at he
  split at he
  rotate_left
  · cases he
  rename_i j off q l d
  obtain ⟨hb, he⟩ := gd_some he
  have hb := Nat.le_of_ble_eq_true hb
  obtain ⟨o1, q1, ho1, hq1, rfl⟩ := bind_some he
  obtain ⟨r1, g1⟩ := rd_some ho1
  obtain ⟨v, hv, rfl⟩ := ofOpt_some hq1
  refine ⟨by rw [r1], by rw [r1], ?_⟩
  generalize o1.a = ao at hv g1
  cases hx with
  | @ssl _ I a' _ _ _ _ C hβ k1 k2 k3 k4 k5 k6 =>
    obtain ⟨I', hI, _, hlt, hob⟩ := hs.obj j ao g1
    rw [hβ] at hI; cases hI
    cases ao with
    | map es clk => cases hv
    | iter q0 p0 => cases hv
    | mapIt q0 q1 q2 q3 => cases hv
    | row D te g =>
      obtain ⟨hok, ws, hpw, hcl, hra, _, _, _⟩ := hob
      simp only [cutCells] at hv
      split at hv
      · rename_i hbq
        have hbq := Nat.of_beq hbq
        have hs0 := Cs.sub_ok D _ _ hok hbq
        rw [hs0] at hbq hv
        simp only [Option.some.injEq] at hv; subst hv
        have hp := (hpw.drop off).take n
        have ha : a' = ⟨I.blk, I.base + off, none⟩ := by
          rcases k6 with k6 | k6
          · exact k6
          · omega
        subst ha
        refine ⟨_, _, C, _, rfl, by omega, hp, fun W hW => ?_⟩
        obtain ⟨m, rfl⟩ : ∃ m, n = m + 1 := ⟨n - 1, by omega⟩
        refine run_firstCells_some (P := P) W 1 (m + 1) _ (lenS q d) C _ (by rw [← hp.1, hbq]; omega) (fun jj u hu => ?_)
        rw [Addr.add_mid]
        have := range_sub hra jj u hu
        rw [World.cell?_of_block (w := w) (by rw [hW])]
        exact this
      · cases hv
def evCopyS (P : Program) (t : TypeId) (d x : Value) : Comp Value :=
  match P.underlying t with
  | some (.slice e) => match szOf P e with
    | some 1 => match d with
      | .slice (some ⟨i, o, none⟩) (m + 1) c => bind (srcS (m + 1) x) fun vs => bind (rd i) fun ao => bind (ofOpt (layOver o vs ao)) fun r => bind (wr i (some r)) fun _ => ret (.int .i64 ((m + 1 : Nat) : Int))
      | _ => fail
    | _ => fail
  | _ => fail
theorem evCopyS_ok [Env] {t t2 ty : TypeId} {d d' x x' : Value} (hd : VR β d d') (hx : VR β x x') : RunS P N β (evCopyS P t d x) (Builtin.copy_ #[t, t2] ty #[d', x']) := by
  unfold evCopyS
  split
  · rename_i e hu
    split
    · rename_i hsz
      have hsz' := fun w => run_sizeOf (P := P) hsz w
      split
      · rename_i i o m c
        intro c0 h ou w he hs hN hfr
        obtain ⟨o1, q1, ho1, hq1, rfl⟩ := bind_some he
        obtain ⟨ec, eh, a', L, C, us, rfl, hnL, hp, hr⟩ := srcS_ok hx ho1 hs (by omega)
        rw [ec, eh] at hq1
        obtain ⟨o2, q2, ho2, hq2, rfl⟩ := bind_some hq1
        obtain ⟨r2, g2⟩ := rd_some ho2
        have ec2 : o2.c = c0 := by rw [r2]
        have eh2 : o2.h = h := by rw [r2]
        obtain ⟨o3, q3, ho3, hq3, rfl⟩ := bind_some hq2
        obtain ⟨r, hr2, rfl⟩ := ofOpt_some ho3
        simp only [ec2, eh2] at hq3
        obtain ⟨o4, q4, ho4, hq4, rfl⟩ := bind_some hq3
        obtain ⟨h', rfl, hset⟩ := wr_some ho4
        simp only [ev.ret, Option.some.injEq] at hq4; subst hq4
        have hlc := hd.slice_le
        obtain ⟨I, c', hβ, rfl, _, _⟩ := hd.slice_pos (by omega)
        obtain ⟨k1, k2, k3, k4⟩ := layOver_ok (P := P) hs g2 hβ hr2 hp hset
        have hst := run_storeCells_cells (P := P) I.blk (I.base + o) us 0 w (fun j hj => by simpa using (k1 j hj).1) (fun j hj => by simpa using (k1 j hj).2) k2
        simp only [Nat.add_zero] at hst
        refine ⟨.int .i64 ((m + 1 : Nat) : Int), _, β, ?_, Ext.refl _ _ _, k3, .int .i64 _, k4⟩
        have hrw := hr w rfl
        have hm' : min L (m + 1) = m + 1 := by omega
        simp [Builtin.copy_, Builtin.lenOf, Sem.run_bind, run_underlying hu, hsz', hm', hrw, hst, goInt]
      · exact RunS.fail
    · exact RunS.fail
  · exact RunS.fail
def evCopyA (P : Program) (t : TypeId) (d x : Value) : Comp Value :=
  match x with
  | .slice (some ⟨j, o, some (q + 1)⟩) l d2 => evCopyS P t d (.slice (some ⟨j, o, some (q + 1)⟩) l d2)
  | x => evCopy P t d x
theorem evCopyA_ok [Env] {t t2 ty : TypeId} {d d' x x' : Value} (hd : VR β d d') (hx : VR β x x') : RunS P N β (evCopyA P t d x) (Builtin.copy_ #[t, t2] ty #[d', x']) := by
  unfold evCopyA
  split
  · exact evCopyS_ok hd hx
  · exact evCopy_ok hd hx
end Go.Proofs.Ytdpmjghdmpaehaa.ev
