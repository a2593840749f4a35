/-
  append and copy do what they say. Conditions: none.
-/
import Derived.Test.YtdpmjghdmpaehaaEvG
namespace Go.Proofs.Ytdpmjghdmpaehaa.ev
set_option linter.unusedVariables false
set_option linter.unusedSimpArgs false
variable {P : Program} {N : Nat} {β : Mp}
theorem RunS.src [Env] {sz n : Nat} {x x' : Value} {f : List Value → Comp Value} {s : Sem Value} (hx : VR β x x') (hn : ∀ a l c, x = .slice a l c → n ≤ l ∧ (a = none → n = 0))
    (hf : ∀ vs us c h o w, f vs c h = some o → Sim P N β h w → N ≤ w.heap.size → (∀ i, c ≤ i → i < o.c → β i = none) → PW β vs us → (∀ W : World, W.heap = w.heap → (Builtin.firstCells sz n x').run P W = .ok us.toArray W) → Does P N β c h w o s) :
    RunS P N β (bind (srcCells sz n x) f) s := fun c h p w he hs hN hfr => by
  obtain ⟨o, q, ho, hq, rfl⟩ := bind_some he
  obtain ⟨e1, e2, us, hp, _, _, hr⟩ := srcCells_ok (P := P) hx hn ho hs
  rw [e1, e2] at hq
  exact hf o.a us c h q w hq hs hN hfr hp hr
/-- A computation that looks at an object and goes on. -/
theorem Does.rd [Env] {i : Nat} {f : Ao → Comp Value} {c : Nat} {h : Tr} {w : World} {p : Out Value} {s : Sem Value} (he : bind (rd i) f c h = some p) (hf : ∀ ao q, Tr.get dep h i = some ao → f ao c h = some q → q.c = p.c → Does P N β c h w q s) : Does P N β c h w p s := by
  obtain ⟨o, q, ho, hq, rfl⟩ := bind_some he
  simp only [ev.rd] at ho
  split at ho
  · rename_i ao hao
    simp only [Option.some.injEq] at ho; subst ho
    exact hf ao q hao hq rfl
  · cases ho
theorem Does.opt [Env] {α : Type} {x : Option α} {f : α → Comp Value} {c : Nat} {h : Tr} {w : World} {p : Out Value} {s : Sem Value} (he : bind (ofOpt x) f c h = some p) (hf : ∀ a q, x = some a → f a c h = some q → q.c = p.c → Does P N β c h w q s) : Does P N β c h w p s := by
  obtain ⟨o, q, ho, hq, rfl⟩ := bind_some he
  obtain ⟨a, ha, rfl⟩ := ofOpt_some ho
  exact hf a q ha hq rfl
theorem wr_some {i : Nat} {x : Option Ao} {c : Nat} {h : Tr} {o : Out Unit} (he : wr i x c h = some o) : ∃ h', o = ⟨(), c, h', 0, bit i⟩ ∧ ∀ j, Tr.get dep h' j = if j = i then x else Tr.get dep h j := by
  simp only [wr] at he
  split at he
  · split at he
    · rename_i h' hs
      simp only [Option.some.injEq] at he
      exact ⟨h', he.symm, Tr.get_set _ _ _ _ _ hs⟩
    · cases he
  · cases he
theorem nw_some {x : Ao} {c : Nat} {h : Tr} {o : Out Nat} (he : nw x c h = some o) : ∃ h', o = ⟨c, c + 1, h', 0, 0⟩ ∧ Tr.set dep h c (some x) = some h' := by
  simp only [nw] at he
  split at he
  · rename_i h' hs
    simp only [Option.some.injEq] at he
    exact ⟨h', he.symm, hs⟩
  · cases he
theorem run_app_none {t tx ty e : TypeId} {i : TypeInfo} (ht : P.underlying t = some (.slice e)) (hk : (∃ e', P.underlying tx = some (.slice e')) ∨ P.underlying tx = some .string) (hi : P.info? e = some i) {x : Value} {base : Option Addr} {sLen sCap : Nat} {w : World}
    (hlen : ∀ w, (Builtin.lenOf x).run P w = .ok 0 w) (hcells : (Builtin.firstCells i.size 0 x).run P w = .ok #[] w) (hroom : sLen ≤ sCap) :
    (Builtin.append_ #[t, tx] ty #[.slice base sLen sCap, x]).run P w = .ok (.slice base sLen sCap) w := by
  rcases hk with ⟨e', hk⟩ | hk <;> cases base <;> simp [Builtin.append_, run_underlying ht, run_underlying hk, sizeOf, typeInfo, hi, hlen, hroom, hcells, storeCells]
theorem firstCells_zero {sz : Nat} {a : Option Addr} {l c : Nat} (w : World) : (Builtin.firstCells sz 0 (.slice a l c)).run P w = .ok #[] w := by
  cases a with
  | none => simp [Builtin.firstCells]
  | some a =>
    have := run_loadCells_list (P := P) w a [] (fun j v hv => by simp at hv)
    simpa [Builtin.firstCells] using this
/-- Is its length known? -/
def knownLen : Option Addr → Prop
  | some ⟨_, _, some (_ + 1)⟩ => False
  | _ => True
theorem VR.slice_form [Env] {a : Option Addr} {l c : Nat} {v' : Value} (h : VR β (.slice a l c) v') (hk : knownLen a) : ∃ a' c', v' = .slice a' l c' ∧ (a = none → a' = none ∧ c' = c) := by
  cases h with
  | nils l c => exact ⟨none, c, rfl, fun _ => ⟨rfl, rfl⟩⟩
  | sl o l c c' hβ h1 h2 h3 h4 => exact ⟨_, c', rfl, (fun h => by simp at h)⟩
  | ksl o l c c' hβ h1 h2 h3 => exact ⟨_, c', rfl, (fun h => by simp at h)⟩
  | ssl o q l d c' hβ h1 h2 h3 h4 h5 h6 => exact hk.elim
theorem lenV_known {a : Option Addr} {l c n : Nat} (h : lenV (.slice a l c) = some n) : knownLen a := by
  cases a with
  | none => trivial
  | some a =>
    obtain ⟨x, y, z⟩ := a
    cases z with
    | none => trivial
    | some z => cases z with
      | zero => trivial
      | succ z => simp [lenV] at h
theorem lenV_le {x : Value} {n : Nat} (h : lenV x = some n) : ∀ a l c, x = .slice a l c → n ≤ l ∧ (a = none → n = 0) := by
  intro a l c e
  subst e
  cases a with
  | none => cases l with
    | zero => simp only [lenV, Option.some.injEq] at h; omega
    | succ l => simp [lenV] at h
  | some a =>
    obtain ⟨x, y, z⟩ := a
    cases z with
    | none => simp only [lenV, Option.some.injEq] at h; exact ⟨by omega, fun h => by cases h⟩
    | some z => cases z with
      | zero => simp only [lenV, Option.some.injEq] at h; exact ⟨by omega, fun h => by cases h⟩
      | succ z => simp [lenV] at h
theorem fits_ok {n b : Nat} (h : fits n b = true) : n ≤ 2 ^ 40 ∧ n * b ≤ 2 ^ 46 := by
  simp only [fits, Bool.and_eq_true] at h
  exact ⟨Nat.le_of_ble_eq_true h.1, Nat.le_of_ble_eq_true h.2⟩
/-- A new row that may grow: what the model lays anew. -/
theorem Sim.grown [Env] {h h' : Tr} {w : World} (hs : Sim P N β h w) (hN : N ≤ w.heap.size) {c : Nat} {cs vs : List Value} {e : TypeId} {i : TypeInfo} (hi : P.info? e = some i) (h0 : 0 < i.size) {need cap : Nat} {z : Value} (hz : z.cells.size = i.size) (hcap : need ≤ cap)
    (hset : Tr.set dep h c (some (.row (.leaf cs) e true)) = some h') (hf : β c = none) (hp : PW β cs vs) (hl : cs.length = need * i.size) :
    ∃ β', Ext c (c + 1) β β' ∧ Sim P N β' h' (w.drew.alloc (.cells (vs.toArray ++ Builtin.zeroCells z.cells (cap - need)) e)) ∧ VR β' (.slice (some ⟨c, 0, none⟩) need need) (.slice (some ⟨w.heap.size, 0, none⟩) need cap) := by
  have hs' : Sim P N β h w.drew := hs.heap rfl
  have hb := heap_alloc_new w.drew (.cells (vs.toArray ++ Builtin.zeroCells z.cells (cap - need)) e)
  have hsz : (vs.toArray ++ Builtin.zeroCells z.cells (cap - need)).size = need * i.size + (cap - need) * i.size := by
    rw [Array.size_append, size_zeroCells, hz]
    have := hp.1
    simp only [List.size_toArray]
    omega
  obtain ⟨e1, e2, e3⟩ := hs'.alloc hN hset hf ⟨w.heap.size, 0, need * i.size, (cap - need) * i.size, i.size⟩ rfl (.cells (vs.toArray ++ Builtin.zeroCells z.cells (cap - need)) e) (fun β' hb' => by
    refine ⟨trivial, vs, hp.mono hb', hl, fun j v hv => ?_, .inr fun j hj => ?_, fun h => (by cases h), fun _ => ⟨by simp [hi], h0⟩, .inr ⟨_, _, _, hb, rfl, .inl rfl⟩⟩
    · rw [Nat.zero_add]
      show World.cell? _ ⟨w.drew.heap.size, j, none⟩ = _
      rw [cell_of_row _ _ _ _ _ _ hb]
      have hj : j < vs.length := (List.getElem?_eq_some_iff.1 hv).1
      rw [Array.getElem?_append_left (by simpa using hj)]
      simpa using hv
    · rw [Nat.zero_add]
      show (World.cell? _ ⟨w.drew.heap.size, j, none⟩).isSome = true ∧ World.frozen? _ ⟨w.drew.heap.size, j, none⟩ = false
      rw [cell_of_row _ _ _ _ _ _ hb, frozen_of_row _ _ _ _ _ hb]
      refine ⟨?_, rfl⟩
      rw [Array.getElem?_eq_getElem (by rw [hsz]; exact hj)]
      rfl)
  refine ⟨_, e1, e2, .sl 0 need need cap e3 (Nat.le_refl _) hcap (.inr ⟨h0, by simp, ?_⟩) (.inl rfl)⟩
  simp only [Nat.zero_add]
  rw [← Nat.add_mul]
  exact Nat.le_of_eq (by congr 1; omega)
theorem Keep.grown [Env] (w : World) (hN : N ≤ w.heap.size) (o : Obj) : Keep N w (w.drew.alloc o) := (Keep.drew w).trans (Keep.alloc w.drew hN o)
set_option maxHeartbeats 2000000 in
theorem evAppend_ok [Env] {t tx ty : TypeId} {s x s' x' : Value} (hsv : VR β s s') (hx : VR β x x') : RunS P N β (evAppend P t tx s x) (Builtin.append_ #[t, tx] ty #[s', x']) := by
  unfold evAppend
  split
  · exact RunS.fail
  · rename_i A hA
    obtain ⟨hk, hu, hi, hz, hzs, h0⟩ := appT_ok hA
    split
    · exact RunS.fail
    · rename_i n hn
      have hlen := fun w => lenV_ok (P := P) hx hn w
      have hle := lenV_le hn
      split
      · -- nil
        cases hsv
        split
        · -- nothing
          split
          · rename_i a l c
            obtain ⟨a', c', rfl, _⟩ := hx.slice_form (lenV_known hn)
            exact RunS.pure (.nils 0 0) (fun w => run_app_none hu hk hi hlen (firstCells_zero w) (Nat.le_refl _))
          · exact RunS.fail
        · rename_i n
          simp only [Nat.succ_eq_add_one] at hn hlen hle
          refine RunS.src (P := P) hx hle fun vs us c h o w ho hs hN hfr hp hr => ?_
          obtain ⟨hb, ho⟩ := gd_some ho
          · simp only [Bool.and_eq_true] at hb
            have hb1 := Nat.of_beq hb.1
            obtain ⟨hf1, hf2⟩ := fits_ok hb.2
            obtain ⟨o1, q1, ho1, hq1, rfl⟩ := bind_some ho
            obtain ⟨h', rfl, hset⟩ := nw_some ho1
            simp only [ev.ret, Option.some.injEq] at hq1; subst hq1
            have hrun := run_app_grow (P := P) (ty := ty) (w := w) hu hk hi hz (s := .slice none 0 0) rfl hlen hr (olds := []) (fun W _ => by simpa using firstCells_zero (sz := A.i.size) (a := none) (l := 0) (c := 0) W) (by omega) (by omega) (by rw [Nat.zero_add]; omega)
            have hge := grownCap_ge w (n + 1) 0 A.e
            simp only [Nat.zero_add] at hrun
            obtain ⟨β', e1, e2, e3⟩ := hs.grown hN (z := A.z) hi h0 hzs hge hset (hfr c (Nat.le_refl _) (by simp)) hp hb1
            refine ⟨_, _, β', hrun, e1, ?_, e3, Keep.grown w hN _⟩
            simpa using e2
      · -- a row
        rename_i i o l cc
        obtain ⟨a', c', rfl, _⟩ := hsv.slice_form trivial
        split
        · split
          · rename_i a l2 c2
            obtain ⟨a2, c2', rfl, _⟩ := hx.slice_form (lenV_known hn)
            refine RunS.pure hsv (fun w => run_app_none hu hk hi hlen (firstCells_zero w) ?_)
            cases hsv with
            | sl o l c c' hβ h1 h2 h3 h4 => omega
          · exact RunS.fail
        · rename_i n
          simp only [Nat.succ_eq_add_one] at hn hlen hle
          refine RunS.src (P := P) hx hle fun vs us c h q w hq hs hN hfr hp hr => ?_
          cases hsv with
          | @sl _ I a' _ _ _ _ hβ h1 h2 h3 h4 =>
            obtain ⟨hb, hq⟩ := gd_some hq
            · simp only [Bool.and_eq_true] at hb
              have hb1 := Nat.of_beq hb.1
              obtain ⟨hf1, hf2⟩ := fits_ok hb.2.1
              have hones := hp.oneCell hb.2.2
              have hul : us.length = (n + 1) * A.i.size := by rw [← hp.1]; exact hb1
              rcases br_some hq with ⟨hroom, hq⟩ | ⟨hroom, hq⟩
              · -- there is room
                have hroom := Nat.le_of_ble_eq_true hroom
                refine Does.rd hq fun ao q1 hao hq1 hc1 => ?_
                refine Does.opt hq1 fun r q2 hr2 hq2 hc2 => ?_
                obtain ⟨o3, q3, ho3, hq3, rfl⟩ := bind_some hq2
                obtain ⟨h', rfl, hset⟩ := wr_some ho3
                simp only [ev.ret, Option.some.injEq] at hq3; subst hq3
                obtain ⟨I', hI, hN', hlt, hob⟩ := hs.obj i ao hao
                rw [hβ] at hI; cases hI
                cases ao with
                | map es clk => cases hr2
                | iter q0 p0 => cases hr2
                | mapIt q0 q1 q2 q3 => cases hr2
                | row C te g =>
                  obtain ⟨hok, ws, hpw, hcl, hra, hth, _, _⟩ := hob
                  simp only [growRow] at hr2
                  split at hr2
                  · rename_i hfit
                    have hfit := Nat.le_trans (Nat.le_of_ble_eq_true hfit) (Cs.len_ok C hok)
                    split at hr2
                    rotate_left
                    · cases hr2
                    rename_i C' hput
                    have hns := Cs.put_sym hput
                    have hth := nosym hns hth
                    have hN' := nosym hns hN'
                    have hput := Cs.put_ok _ _ _ _ _ hok hfit hput
                    simp only [Option.some.injEq] at hr2; subst hr2
                    have ha : a' = ⟨I.blk, I.base + o, none⟩ := by
                      rcases h4 with h4 | h4
                      · exact h4
                      · omega
                    subst ha
                    have hth' : w.there I.blk (I.base + o + l * A.i.size) us.length := by
                      rw [Nat.add_assoc]
                      exact there_sub hth (by rw [← hp.1]; omega)
                    have hrun := run_app_room (P := P) (ty := ty) hu hk hi hlen hr hones (by omega : l + (n + 1) ≤ c') hth'
                    have hsim := hs.write hao hns hβ (by rw [Nat.add_comm] at hfit; omega : (o + l * A.i.size) + vs.length ≤ C.list.length) hp hput hset
                    rw [← Nat.add_assoc] at hsim
                    exact ⟨_, _, β, hrun, Ext.refl _ _ _, hsim, .sl o (l + (n + 1)) cc c' hβ hroom h2 h3 (.inl rfl), Keep.setCells _ hN' _ _ _⟩
                  · cases hr2
              · -- there is none
                have hroom : cc < l + (n + 1) := by
                  rcases Nat.lt_or_ge cc (l + (n + 1)) with hh | hh
                  · exact hh
                  · rw [Nat.ble_eq_true_of_le hh] at hroom; cases hroom
                refine Does.rd hq fun ao q1 hao hq1 hc1 => ?_
                refine Does.opt hq1 fun r q2 hr2 hq2 hc2 => ?_
                obtain ⟨I', hI, hN', hlt, hob⟩ := hs.obj i ao hao
                rw [hβ] at hI; cases hI
                cases ao with
                | map es clk => cases hr2
                | iter q0 p0 => cases hr2
                | mapIt q0 q1 q2 q3 => cases hr2
                | row C te g =>
                  obtain ⟨hok, ws, hpw, hcl, hra, hth, hg0, hg1⟩ := hob
                  simp only [growRow] at hr2
                  split at hr2
                  · rename_i hold
                    have hold := Nat.of_beq hold
                    have hs0 := Cs.sub_ok C _ _ hok hold
                    rw [hs0] at hold hr2
                    generalize hcs : C.list = cs at hpw hcl hr2 hold
                    have hpo := (hpw.drop o).take (l * A.i.size)
                    have hnew := hpo.append hp
                    have hnl : ((cs.drop o).take (l * A.i.size) ++ vs).length = (l + (n + 1)) * A.i.size := by rw [List.length_append, hold, hb1, ← Nat.add_mul]
                    have holds : ∀ W : World, W.heap = w.heap → (Builtin.firstCells A.i.size l (.slice (some a') l c')).run P W = .ok ((ws.drop o).take (l * A.i.size)).toArray W := fun W hW => by
                      cases l with
                      | zero => simpa using firstCells_zero (sz := A.i.size) (a := some a') (l := 0) (c := c') W
                      | succ l =>
                        have ha : a' = ⟨I.blk, I.base + o, none⟩ := by
                          rcases h4 with h4 | h4
                          · exact h4
                          · omega
                        subst ha
                        refine run_firstCells_some (P := P) W A.i.size (l + 1) _ (l + 1) c' _ (by rw [← hpo.1]; exact hold) (fun j u hu => ?_)
                        rw [Addr.add_mid]
                        have := range_sub hra j u hu
                        rw [World.cell?_of_block (w := w) (by rw [hW])]
                        exact this
                    have grow : ∀ (hh : Tr) (cc0 : Nat) (hh' : Tr), Sim P N β hh w → β cc0 = none → c' < l + (n + 1) → Tr.set dep hh cc0 (some (.row (.leaf ((cs.drop o).take (l * A.i.size) ++ vs)) A.e true)) = some hh' →
                        ∃ v' w' β', (Builtin.append_ #[t, tx] ty #[.slice (some a') l c', x']).run P w = .ok v' w' ∧ Ext cc0 (cc0 + 1) β β' ∧ Sim P N β' hh' w' ∧ VR β' (.slice (some ⟨cc0, 0, none⟩) (l + (n + 1)) (l + (n + 1))) v' ∧ Keep N w w' := fun hh cc0 hh' hsim hfc hlt' hset => by
                      have hrun := run_app_grow (P := P) (ty := ty) (w := w) hu hk hi hz (s := .slice (some a') l c') rfl hlen hr holds hlt' (by omega) (by omega)
                      have hge := grownCap_ge w (l + (n + 1)) c' A.e
                      obtain ⟨β', e1, e2, e3⟩ := hsim.grown hN (z := A.z) hi h0 hzs hge hset hfc hnew hnl
                      refine ⟨_, _, β', hrun, e1, ?_, e3, Keep.grown w hN _⟩
                      simpa using e2
                    split at hr2
                    · -- it may have hidden room
                      split at hr2
                      · rename_i z hz2
                        split at hr2
                        · rename_i hzb
                          rw [Bool.and_eq_true, Bool.and_eq_true] at hzb
                          have hte := Nat.of_beq hzb.2
                          have hzsz := Nat.of_beq hzb.1.1
                          have hns := notSym_ok hzb.1.2
                          have hth := nosym hns hth
                          have hN' := nosym hns hN'
                          simp only [Option.some.injEq] at hr2; subst hr2
                          replace hq2 := (br_some hq2).resolve_right (fun e => by cases e.1)
                          obtain ⟨_, hq2⟩ := hq2
                          obtain ⟨o3, q3, ho3, hq3, rfl⟩ := bind_some hq2
                          obtain ⟨h1', rfl, hset1⟩ := wr_some ho3
                          obtain ⟨o4, q4, ho4, hq4, rfl⟩ := bind_some hq3
                          obtain ⟨h2', rfl, hset2⟩ := nw_some ho4
                          simp only [ev.ret, Option.some.injEq] at hq4; subst hq4
                          simp only at hc1 hc2
                          have hfc : β c = none := hfr c (Nat.le_refl _) (by rw [← hc1, ← hc2]; simp)
                          have hsk := hs.kill i hset1
                          by_cases hcap : c' < l + (n + 1)
                          · exact grow h1' c h2' hsk hfc hcap hset2
                          · -- in place
                            have hcap : l + (n + 1) ≤ c' := by omega
                            obtain ⟨hI1, hI0⟩ := hg1.1 rfl
                            have hIsz : I.sz = A.i.size := by
                              have : some I.sz = some z := hI1.symm.trans hz2
                              simp only [Option.some.injEq] at this
                              omega
                            have ha : a' = ⟨I.blk, I.base + o, none⟩ := by
                              rcases h4 with h4 | h4
                              · exact h4
                              · omega
                            subst ha
                            rcases h3 with h3 | ⟨d1, d2, d3⟩
                            · omega
                            rw [hIsz] at d2 d3
                            have hm1 : (l + (n + 1)) * A.i.size ≤ c' * A.i.size := Nat.mul_le_mul_right _ hcap
                            have hm2 : (l + (n + 1)) * A.i.size = l * A.i.size + (n + 1) * A.i.size := Nat.add_mul _ _ _
                            have hth' : w.there I.blk (I.base + o + l * A.i.size) us.length := by
                              rw [Nat.add_assoc]
                              exact there_sub hth (by rw [hul]; omega)
                            have hrun := run_app_room (P := P) (ty := ty) hu hk hi hlen hr hones hcap hth'
                            have hrow : o + l * A.i.size ≤ cs.length := by
                              have h5 : ((cs.drop o).take (l * A.i.size)).length = l * A.i.size := hold
                              rw [List.length_take, List.length_drop] at h5
                              by_cases hl0 : l * A.i.size = 0
                              · have : l ≤ cc := h1
                                have : l * A.i.size ≤ cc * A.i.size := Nat.mul_le_mul_right _ h1
                                rw [hcl]; omega
                              · omega
                            let J : Im := ⟨I.blk, I.base + o, (l + (n + 1)) * A.i.size, I.n + I.room - o - (l + (n + 1)) * A.i.size, A.i.size⟩
                            let β' : Mp := fun k => if k = c then some J else β k
                            have hb' : ∀ k K, β k = some K → β' k = some K := fun k K hk' => by
                              show (if k = c then some J else β k) = some K
                              rw [if_neg (by rintro rfl; rw [hfc] at hk'; cases hk')]; exact hk'
                            have hJ : β' c = some J := if_pos rfl
                            have hfar : ∀ k o' K, Tr.get dep h1' k = some o' → β k = some K → K.blk ≠ I.blk := fun k o' K hk' hK => by
                              rw [hset1] at hk'
                              split at hk'
                              · cases hk'
                              · rename_i hne
                                exact hs.far (o := .row C te true) hns hk' hao hK hβ hne
                            refine ⟨_, _, β', hrun, ⟨hb', fun k hk' => ?_⟩, ?_, ?_, Keep.setCells _ hN' _ _ _⟩
                            · by_cases e : k = c
                              · simp only; omega
                              · exact absurd (if_neg e) hk'
                            · refine hsk.upd (by rw [size_setCells']; exact Nat.le_refl _) c _ (Tr.get_set _ _ _ _ _ hset2) hb' (fun ob he => ?_) (fun k o' K hk' hk2 hK => ?_)
                              · cases he
                                refine ⟨J, hJ, hN', by rw [size_setCells']; exact hlt, ⟨trivial, (ws.drop o).take (l * A.i.size) ++ us, hnew.mono hb', hnl, ?_, .inr ?_, fun hh => (by cases hh), fun _ => ⟨by simp [hi, J], h0⟩, .inr (FZ.setCells _ _ (hte ▸ nosym hns hg1.2))⟩, fun k o' K hk' hk2 hK => hfar k o' K hk2 hK⟩
                                · show (w.setCells I.blk (I.base + o + l * A.i.size) us).rangeAt I.blk (I.base + o) _
                                  intro j v hv
                                  rw [List.getElem?_append] at hv
                                  have hwl : ((ws.drop o).take (l * A.i.size)).length = l * A.i.size := by rw [← hpo.1]; exact hold
                                  split at hv
                                  · have h6 : w.rangeAt I.blk (I.base + o) ((ws.drop o).take (l * A.i.size)) := range_sub hra
                                    exact World.rangeAt_setCells_apart h6 _ _ us (.inr (.inl (by rw [hwl]; omega))) j v hv
                                  · rename_i hj
                                    rw [hwl] at hv hj
                                    have := World.rangeAt_setCells_same w I.blk (I.base + o + l * A.i.size) us hth' _ v hv
                                    rwa [show I.base + o + l * A.i.size + (j - l * A.i.size) = I.base + o + j from by omega] at this
                                · show (w.setCells I.blk (I.base + o + l * A.i.size) us).there I.blk (I.base + o) ((l + (n + 1)) * A.i.size + (I.n + I.room - o - (l + (n + 1)) * A.i.size))
                                  refine World.there_setCells (there_sub hth ?_) _ _ _
                                  omega
                              · exact heap_setCells_other _ _ (hfar k o' K hk2 hK) _ _ _
                            · have := VR.sl (β := β') (a' := ⟨I.blk, I.base + o, none⟩) 0 (l + (n + 1)) (l + (n + 1)) c' hJ (Nat.le_refl _) hcap (.inr ⟨h0, by simp [J], ?_⟩) (.inl (by simp [J]))
                              · exact this
                              · show 0 + c' * A.i.size ≤ (l + (n + 1)) * A.i.size + (I.n + I.room - o - (l + (n + 1)) * A.i.size)
                                omega
                        · cases hr2
                      · cases hr2
                    · -- it has none
                      simp only [Option.some.injEq] at hr2; subst hr2
                      replace hq2 := (br_some hq2).resolve_left (fun e => by cases e.1)
                      obtain ⟨_, hq2⟩ := hq2
                      obtain ⟨o4, q4, ho4, hq4, rfl⟩ := bind_some hq2
                      obtain ⟨h2', rfl, hset2⟩ := nw_some ho4
                      simp only [ev.ret, Option.some.injEq] at hq4; subst hq4
                      simp only at hc1 hc2
                      have hfc : β c = none := hfr c (Nat.le_refl _) (by rw [← hc1, ← hc2]; simp)
                      have hcc : c' = cc := by
                        rcases h3 with h3 | ⟨d1, d2, d3⟩
                        · exact h3
                        · rcases (hg0 rfl).1 with hr0 | hr0
                          rotate_left
                          · omega
                          rw [hr0] at d3
                          have : c' * I.sz ≤ cc * I.sz := by omega
                          have := Nat.le_of_mul_le_mul_right this d1
                          omega
                      exact grow h c h2' hs hfc (by omega) hset2
                  · cases hr2
      · exact RunS.fail
end Go.Proofs.Ytdpmjghdmpaehaa.ev
