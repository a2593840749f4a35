/-
  Strings ranged over. Conditions: none.
-/
import Derived.Test.YtdpmjghdmpaehaaEvHv
namespace Go.Proofs.Ytdpmjghdmpaehaa.ev
set_option linter.unusedVariables false
set_option linter.unusedSimpArgs false
variable {P : Program} {N : Nat} {β : Mp}
/-- An iterator over a map. -/
def itOf (m : Nat) : Ao → Option Ao
  | .map _ clk => some (.mapIt (some m) clk [] clk)
  | _ => none
def evRange (P : Program) (t : TypeId) (x : Value) : Comp Value :=
  match P.underlying t, x with
  | some .string, .string s => bind (nw (.iter s 0)) fun i => ret (.pointer (some ⟨i, 0, none⟩))
  | some (.map _ _), .map none => bind (nw (.mapIt none 0 [] 0)) fun i => ret (.pointer (some ⟨i, 0, none⟩))
  | some (.map _ _), .map (some m) => bind (rd m) fun ao => bind (ofOpt (itOf m ao)) fun x => bind (nw x) fun i => ret (.pointer (some ⟨i, 0, none⟩))
  | _, _ => fail
theorem evRange_ok [Env] {t : TypeId} {x x' : Value} (hx : VR β x x') : RunS P N β (evRange P t x) (Instr.range t x') := by
  unfold evRange
  split
  · rename_i s hu
    cases hx
    intro c h o w he hs hN hf
    obtain ⟨o1, q1, ho1, hq1, rfl⟩ := bind_some he
    obtain ⟨h', rfl, hset⟩ := nw_some ho1
    simp only [ev.ret, Option.some.injEq] at hq1; subst hq1
    obtain ⟨e1, e2, e3⟩ := hs.alloc hN hset (hf c (Nat.le_refl _) (by simp)) ⟨w.heap.size, 0, 0, 0, 0⟩ rfl (.stringIter s 0) (fun β' hb => ⟨heap_alloc_new w _, rfl⟩)
    have e4 := VR.ptr (β := fun i => if i = c then some ⟨w.heap.size, 0, 0, 0, 0⟩ else β i) (i := c) (I := ⟨w.heap.size, 0, 0, 0, 0⟩) 0 e3
    refine ⟨_, _, _, ?_, e1, e2, e4, Keep.alloc w hN _⟩
    simp [Instr.range, Sem.run_bind, run_underlying hu, newObj, Sem.run]
  · rename_i hu
    cases hx
    intro c h o w he hs hN hf
    obtain ⟨o1, q1, ho1, hq1, rfl⟩ := bind_some he
    obtain ⟨h', rfl, hset⟩ := nw_some ho1
    simp only [ev.ret, Option.some.injEq] at hq1; subst hq1
    obtain ⟨e1, e2, e3⟩ := hs.alloc hN hset (hf c (Nat.le_refl _) (by simp)) ⟨w.heap.size, 0, 0, 0, 0⟩ rfl (.mapIter none 0 #[] 0) (fun β' hb => ⟨rfl, none, heap_alloc_new w _, .inl ⟨rfl, rfl⟩⟩)
    have e4 := VR.ptr (β := fun i => if i = c then some ⟨w.heap.size, 0, 0, 0, 0⟩ else β i) (i := c) (I := ⟨w.heap.size, 0, 0, 0, 0⟩) 0 e3
    refine ⟨_, _, _, ?_, e1, e2, e4, Keep.alloc w hN _⟩
    simp [Instr.range, Sem.run_bind, run_underlying hu, newObj, Sem.run]
  · rename_i m hu
    cases hx with
    | @map _ J hβ =>
      refine RunS.rd fun ao c h q w hq hao hs hN hfr => ?_
      refine Does.opt hq fun r q2 hr2 hq2 hc2 => ?_
      obtain ⟨o1, q1, ho1, hq1, rfl⟩ := bind_some hq2
      obtain ⟨h', rfl, hset⟩ := nw_some ho1
      simp only [ev.ret, Option.some.injEq] at hq1; subst hq1
      obtain ⟨I', hI, hN', hlt, hob⟩ := hs.obj m ao hao
      rw [hβ] at hI; cases hI
      cases ao with
      | row cs te g => cases hr2
      | iter s p => cases hr2
      | mapIt a b c d => cases hr2
      | map es clk =>
        simp only [itOf, Option.some.injEq] at hr2; subst hr2
        obtain ⟨es', k1, k2, k3, k4⟩ := hob
        have hfc : β c = none := hfr c (Nat.le_refl _) (by rw [← hc2]; simp)
        obtain ⟨e1, e2, e3⟩ := hs.alloc hN hset hfc ⟨w.heap.size, 0, 0, 0, 0⟩ rfl (.mapIter (some J.blk) clk #[] clk) (fun β' hb => ⟨rfl, some J.blk, heap_alloc_new w _, .inr ⟨m, J, rfl, hb _ _ hβ, rfl⟩⟩)
        have e4 := VR.ptr (β := fun i => if i = c then some ⟨w.heap.size, 0, 0, 0, 0⟩ else β i) (i := c) (I := ⟨w.heap.size, 0, 0, 0, 0⟩) 0 e3
        refine ⟨_, _, _, ?_, e1, e2, e4, Keep.alloc w hN _⟩
        simp [Instr.range, Sem.run_bind, run_underlying hu, getObj, newObj, Sem.run, k1]
  · exact RunS.fail
def stepIter : Ao → Option (Ao × Value)
  | .iter s pos => match Nat.blt pos s.data.toList.length with
    | true => some (.iter s (pos + (Utf8.decode s pos).2), .tuple #[.bool true, .int .i64 pos, .int .i32 (Utf8.decode s pos).1])
    | false => some (.iter s pos, .tuple #[.bool false])
  | _ => none
/-- The map that an iterator goes over. -/
def overOf : Ao → Option (Option Nat)
  | .mapIt m _ _ _ => some m
  | _ => none
/-- The next entry, if the order leaves one alone. -/
def nextOf (it : Ao) : Ao → Option (Ao × Value)
  | .map es clk => match it with
    | .mapIt m since seen last => match !seen.isEmpty && !es.isEmpty && es.all (fun e => decide (e.born ≥ last)) with
      | true => none
      | false => match (es.filter fun e => !seen.contains e.born).filter (fun e => decide (e.born < since)), (es.filter fun e => !seen.contains e.born).filter (fun e => decide (e.born ≥ since)) with
        | [], [] => some (it, .tuple #[.bool false])
        | [e], [] => some (.mapIt m since (seen ++ [e.born]) clk, .tuple #[.bool true, e.key, e.val])
        | _, _ => none
    | _ => none
  | _ => none
def evNext (x : Value) (str : Bool) : Comp Value :=
  match str, x with
  | true, .pointer (some ⟨i, 0, none⟩) => bind (rd i) fun ao => bind (ofOpt (stepIter ao)) fun r => bind (wr i (some r.1)) fun _ => gd (flat r.2) (ret r.2)
  | false, .pointer (some ⟨i, 0, none⟩) => bind (rd i) fun it => bind (ofOpt (overOf it)) fun m => match m with
    | none => ret (.tuple #[.bool false])
    | some m => bind (rd m) fun ao => bind (ofOpt (nextOf it ao)) fun r => bind (wr i (some r.1)) fun _ => ret r.2
  | _, _ => fail
/-- Entries, one by one. -/
inductive PE [Env] (β : Mp) : List MapEntry → List MapEntry → Prop
  | nil : PE β [] []
  | cons {e e' : MapEntry} {l l' : List MapEntry} : VR β e.key e'.key → VR β e.val e'.val → e'.born = e.born → PE β l l' → PE β (e :: l) (e' :: l')
theorem PE.of [Env] {β : Mp} : ∀ (l l' : List MapEntry), l'.length = l.length → (∀ (j : Nat) (e e' : MapEntry), l[j]? = some e → l'[j]? = some e' → VR β e.key e'.key ∧ VR β e.val e'.val ∧ e'.born = e.born) → PE β l l'
  | [], [], _, _ => .nil
  | [], b :: l', h, _ => by simp at h
  | a :: l, [], h, _ => by simp at h
  | a :: l, b :: l', h, hh => by
    obtain ⟨h1, h2, h3⟩ := hh 0 a b rfl rfl
    exact .cons h1 h2 h3 (PE.of l l' (by simpa using h) fun j e e' he he' => hh (j + 1) e e' (by simpa using he) (by simpa using he'))
theorem PE.filter [Env] {β : Mp} (p : Nat → Bool) {l l' : List MapEntry} (h : PE β l l') : PE β (l.filter fun e => p e.born) (l'.filter fun e => p e.born) := by
  induction h with
  | nil => exact .nil
  | @cons e e' l l' h1 h2 h3 _ ih =>
    simp only [List.filter_cons, h3]
    split
    · exact .cons h1 h2 h3 ih
    · exact ih
theorem PE.all [Env] {β : Mp} (p : Nat → Bool) {l l' : List MapEntry} (h : PE β l l') : (l'.all fun e => p e.born) = (l.all fun e => p e.born) := by
  induction h with
  | nil => rfl
  | cons h1 h2 h3 _ ih => simp only [List.all_cons, h3, ih]
theorem PE.isEmpty [Env] {β : Mp} {l l' : List MapEntry} (h : PE β l l') : l'.isEmpty = l.isEmpty := by cases h <;> rfl
theorem run_next_over {P : Program} {ty : TypeId} {w : World} {r m since last clk : Nat} {seen : Array Nat} {es : Array MapEntry} (h1 : w.heap[r]? = some (.mapIter (some m) since seen last)) (h2 : w.heap[m]? = some (.map es clk))
    (hg : (!seen.isEmpty && !es.isEmpty && es.all (fun e => decide (e.born ≥ last))) = false)
    (ho : (es.filter fun e => !seen.contains e.born).filter (fun e => decide (e.born < since)) = #[]) (hn : (es.filter fun e => !seen.contains e.born).filter (fun e => decide (e.born ≥ since)) = #[]) :
    (Instr.next (.pointer (some ⟨r, 0, none⟩)) false ty).run P w = .ok (.tuple #[.bool false]) w := by
  have g1 : (getObj r).run P w = .ok (.mapIter (some m) since seen last) w := by simp [getObj, Sem.run, h1]
  have g2 : (getObj m).run P w = .ok (.map es clk) w := by simp [getObj, Sem.run, h2]
  unfold Instr.next
  simp only
  rw [Sem.run_bind, g1]
  simp only [Result.andThen]
  rw [Sem.run_bind, g2]
  simp only [Result.andThen, hg, ho, hn, Bool.false_eq_true, if_false]
  simp [Sem.run, Question.forced]
theorem run_next_one {P : Program} {ty : TypeId} {w : World} {r m since last clk : Nat} {seen : Array Nat} {es : Array MapEntry} {e : MapEntry} (h1 : w.heap[r]? = some (.mapIter (some m) since seen last)) (h2 : w.heap[m]? = some (.map es clk))
    (hg : (!seen.isEmpty && !es.isEmpty && es.all (fun e => decide (e.born ≥ last))) = false)
    (ho : (es.filter fun e => !seen.contains e.born).filter (fun e => decide (e.born < since)) = #[e]) (hn : (es.filter fun e => !seen.contains e.born).filter (fun e => decide (e.born ≥ since)) = #[]) :
    (Instr.next (.pointer (some ⟨r, 0, none⟩)) false ty).run P w = .ok (.tuple #[.bool true, e.key, e.val]) { w with heap := w.heap.setIfInBounds r (.mapIter (some m) since (seen.push e.born) clk) } := by
  have g1 : (getObj r).run P w = .ok (.mapIter (some m) since seen last) w := by simp [getObj, Sem.run, h1]
  have g2 : (getObj m).run P w = .ok (.map es clk) w := by simp [getObj, Sem.run, h2]
  unfold Instr.next
  simp only
  rw [Sem.run_bind, g1]
  simp only [Result.andThen]
  rw [Sem.run_bind, g2]
  simp only [Result.andThen, hg, ho, hn, Bool.false_eq_true, if_false]
  simp [Sem.run, setObj, Question.forced, h1]
theorem evNextMap_ok [Env] {ty : TypeId} {i : Nat} {x' : Value} (hx : VR β (.pointer (some ⟨i, 0, none⟩)) x') : RunS P N β (bind (rd i) fun it => bind (ofOpt (overOf it)) fun m => match m with
    | none => ret (.tuple #[.bool false])
    | some m => bind (rd m) fun ao => bind (ofOpt (nextOf it ao)) fun r => bind (wr i (some r.1)) fun _ => ret r.2) (Instr.next x' false ty) := by
  cases hx with
  | @ptr _ I _ hβ =>
    refine RunS.rd fun it c h q w hq hao hs hN hfr => ?_
    refine Does.opt hq fun m q2 hr2 hq2 hc2 => ?_
    obtain ⟨I', hI, hN', hlt, hob⟩ := hs.obj i it hao
    rw [hβ] at hI; cases hI
    cases it with
    | row cs te g => cases hr2
    | map es clk => cases hr2
    | iter s p => cases hr2
    | mapIt mm since seen last =>
      have hNb : N ≤ I.blk := hN'.resolve_left (fun h => by cases h)
      simp only [overOf, Option.some.injEq] at hr2; subst hr2
      obtain ⟨hb, m', hm1, hm2⟩ := hob
      have hadr : (⟨I.blk, I.base + 0, none⟩ : Addr) = ⟨I.blk, 0, none⟩ := by rw [hb]
      rw [hadr]
      cases mm with
      | none =>
        simp only [ev.ret, Option.some.injEq] at hq2; subst hq2
        rcases hm2 with ⟨_, rfl⟩ | ⟨_, _, k, _⟩
        · refine ⟨_, w, β, ?_, Ext.refl _ _ _, hs, VR.of_flat 6 _ rfl, Keep.refl _ _⟩
          simp [Instr.next, Sem.run_bind, getObj, Sem.run, hm1]
        · cases k
      | some k =>
        rcases hm2 with ⟨k', _⟩ | ⟨_, J, k1, hJ, rfl⟩
        · cases k'
        cases k1
        simp only at hq2
        obtain ⟨o3, q3, ho3, hq3, rfl⟩ := bind_some hq2
        simp only [ev.rd] at ho3
        split at ho3
        rotate_left
        · cases ho3
        rename_i ao hak
        simp only [Option.some.injEq] at ho3; subst ho3
        obtain ⟨o4, q4, ho4, hq4, rfl⟩ := bind_some hq3
        obtain ⟨r, hr, rfl⟩ := ofOpt_some ho4
        obtain ⟨o5, q5, ho5, hq5, rfl⟩ := bind_some hq4
        obtain ⟨h', rfl, hset⟩ := wr_some ho5
        simp only [ev.ret, Option.some.injEq] at hq5; subst hq5
        obtain ⟨J', hJ', _, hJl, hobj⟩ := hs.obj k ao hak
        rw [hJ] at hJ'; cases hJ'
        cases ao with
        | row cs te g => cases hr
        | iter s p => cases hr
        | mapIt a b c d => cases hr
        | map es clk =>
          obtain ⟨es', e1, e2, e3, e4⟩ := hobj
          have hpe : PE β es es'.toList := PE.of _ _ (by simpa using e3) (fun j e e' he he' => e4 j e e' he (by simpa using he'))
          have a1 := hpe.all (fun b => decide (b ≥ last))
          have a2 := hpe.isEmpty
          have a3 := (hpe.filter (fun b => !seen.contains b)).filter (fun b => decide (b < since))
          have a4 := (hpe.filter (fun b => !seen.contains b)).filter (fun b => decide (b ≥ since))
          simp only [nextOf] at hr
          split at hr
          · cases hr
          rename_i hg
          have hg' : (!seen.toArray.isEmpty && !es'.isEmpty && es'.all (fun e => decide (e.born ≥ last))) = false := by
            have q1 : seen.toArray.isEmpty = seen.isEmpty := by simp
            have q2 : es'.isEmpty = es'.toList.isEmpty := by simp
            have q3 : es'.all (fun e => decide (e.born ≥ last)) = es'.toList.all (fun e => decide (e.born ≥ last)) := by simp
            rw [q1, q2, q3, a1, a2]; exact hg
          have fold1 : (es'.filter fun e => !seen.toArray.contains e.born).filter (fun e => decide (e.born < since)) = ((es'.toList.filter fun e => !seen.contains e.born).filter (fun e => decide (e.born < since))).toArray := by
            apply Array.toList_inj.1
            simp
          have fold2 : (es'.filter fun e => !seen.toArray.contains e.born).filter (fun e => decide (e.born ≥ since)) = ((es'.toList.filter fun e => !seen.contains e.born).filter (fun e => decide (e.born ≥ since))).toArray := by
            apply Array.toList_inj.1
            simp
          split at hr
          · rename_i h1 h2
            rw [h1] at a3
            rw [h2] at a4
            simp only [Option.some.injEq] at hr; subst hr
            have b3 : (es'.toList.filter fun e => !seen.contains e.born).filter (fun e => decide (e.born < since)) = [] := by
              generalize (es'.toList.filter fun e => !seen.contains e.born).filter (fun e => decide (e.born < since)) = X at a3 ⊢
              cases a3; rfl
            have b4 : (es'.toList.filter fun e => !seen.contains e.born).filter (fun e => decide (e.born ≥ since)) = [] := by
              generalize (es'.toList.filter fun e => !seen.contains e.born).filter (fun e => decide (e.born ≥ since)) = X at a4 ⊢
              cases a4; rfl
            rw [b3] at fold1
            rw [b4] at fold2
            refine ⟨_, w, β, ?_, Ext.refl _ _ _, ?_, VR.of_flat 6 _ rfl, Keep.refl _ _⟩
            · exact run_next_over hm1 e1 hg' fold1 fold2
            · refine hs.upd (Nat.le_refl _) i _ hset (fun _ _ h => h) (fun o' he => ?_) (fun j o' J hj hjo hJ => rfl)
              cases he
              exact ⟨I, hβ, hNb, hlt, ⟨hb, _, hm1, .inr ⟨k, J, rfl, hJ, rfl⟩⟩, fun j o' J hj hjo hJ => hs.far' hjo hao hJ hβ hj rfl⟩
          · rename_i e h1 h2
            rw [h1] at a3
            rw [h2] at a4
            simp only [Option.some.injEq] at hr; subst hr
            have b3 : ∃ e', (es'.toList.filter fun e => !seen.contains e.born).filter (fun e => decide (e.born < since)) = [e'] ∧ VR β e.key e'.key ∧ VR β e.val e'.val ∧ e'.born = e.born := by
              generalize (es'.toList.filter fun e => !seen.contains e.born).filter (fun e => decide (e.born < since)) = X at a3 ⊢
              cases a3 with
              | cons x1 x2 x3 x4 => cases x4; exact ⟨_, rfl, x1, x2, x3⟩
            have b4 : (es'.toList.filter fun e => !seen.contains e.born).filter (fun e => decide (e.born ≥ since)) = [] := by
              generalize (es'.toList.filter fun e => !seen.contains e.born).filter (fun e => decide (e.born ≥ since)) = X at a4 ⊢
              cases a4; rfl
            obtain ⟨e', b3, v1, v2, v3⟩ := b3
            rw [b3] at fold1
            rw [b4] at fold2
            refine ⟨.tuple #[.bool true, e'.key, e'.val], { w with heap := w.heap.setIfInBounds I.blk (.mapIter (some J.blk) since (seen.toArray.push e'.born) clk) }, β, ?_, Ext.refl _ _ _, ?_, ?_, ⟨rfl, rfl, rfl, by simp, fun k hk => ?_⟩⟩
            · exact run_next_one hm1 e1 hg' fold1 fold2
            · refine hs.upd (by simp) i _ hset (fun _ _ h => h) (fun o' he => ?_) (fun j o' J hj hjo hJ => ?_)
              · cases he
                refine ⟨I, hβ, hNb, by simpa using hlt, ⟨hb, some J.blk, ?_, .inr ⟨k, J, rfl, hJ, rfl⟩⟩, fun j o' J hj hjo hJ => hs.far' hjo hao hJ hβ hj rfl⟩
                simp [hlt, v3]
              · have := hs.far' hjo hao hJ hβ hj rfl
                simp [Array.getElem?_setIfInBounds_ne (Ne.symm this)]
            · have t := PW.arr (β := β) (c := #[.bool true, e.key, e.val]) (c' := #[.bool true, e'.key, e'.val]) (PW.cons (.bool true) (PW.cons v1 (PW.cons v2 (PW.nil β))))
              exact .tuple t.1 t.2
            · have : I.blk ≠ k := by omega
              simp [Array.getElem?_setIfInBounds_ne this]
          · cases hr
theorem evNext_ok [Env] {ty : TypeId} {x x' : Value} {str : Bool} (hx : VR β x x') : RunS P N β (evNext x str) (Instr.next x' str ty) := by
  unfold evNext
  split
  · rename_i i
    cases hx with
    | @ptr _ I _ hβ =>
      refine RunS.rd fun ao c h q w hq hao hs hN hfr => ?_
      refine Does.opt hq fun r q2 hr2 hq2 hc2 => ?_
      obtain ⟨o3, q3, ho3, hq3, rfl⟩ := bind_some hq2
      obtain ⟨h', rfl, hset⟩ := wr_some ho3
      obtain ⟨hfl, hq3⟩ := gd_some hq3
      simp only [ev.ret, Option.some.injEq] at hq3; subst hq3
      obtain ⟨I', hI, hN', hlt, hob⟩ := hs.obj i ao hao
      rw [hβ] at hI; cases hI
      cases ao with
      | map es clk => cases hr2
      | row cs te g => cases hr2
      | mapIt a b c d => cases hr2
      | iter s pos =>
        have hN' : N ≤ I.blk := hN'.resolve_left (fun h => by cases h)
        obtain ⟨h1, h2⟩ := hob
        have keep : ∀ (p' : Nat), r.1 = .iter s p' → Sim P N β h' { w with heap := w.heap.setIfInBounds I.blk (.stringIter s p') } ∧ Keep N w { w with heap := w.heap.setIfInBounds I.blk (.stringIter s p') } := fun p' hr1 => by
          refine ⟨hs.upd (by simp) i _ hset (fun _ _ h => h) (fun o' he => ?_) (fun j o' J hj hjo hJ => ?_), ⟨rfl, rfl, rfl, by simp, fun k hk => ?_⟩⟩
          · rw [hr1] at he; cases he
            exact ⟨I, hβ, hN', by simpa using hlt, ⟨by simp [hlt], h2⟩, fun j o' J hj hjo hJ => hs.far' hjo hao hJ hβ hj rfl⟩
          · have := hs.far' hjo hao hJ hβ hj rfl
            simp [Array.getElem?_setIfInBounds_ne (Ne.symm this)]
          · have : I.blk ≠ k := by omega
            simp [Array.getElem?_setIfInBounds_ne this]
        have hadr : (⟨I.blk, I.base + 0, none⟩ : Addr) = ⟨I.blk, 0, none⟩ := by rw [h2]
        rw [hadr]
        simp only [stepIter] at hr2
        split at hr2
        · rename_i hlt2
          have hlt2 : pos < s.size := Nat.le_of_ble_eq_true hlt2
          simp only [Option.some.injEq] at hr2; subst hr2
          obtain ⟨k1, k2⟩ := keep _ rfl
          refine ⟨_, _, β, ?_, Ext.refl _ _ _, k1, VR.of_flat 6 _ hfl, k2⟩
          simp [Instr.next, Sem.run_bind, getObj, setObj, Sem.run, h1, hlt2, goInt]
        · rename_i hlt2
          have hlt2 : ¬ pos < s.size := fun hh => by
            rw [show Nat.blt pos s.data.toList.length = true from Nat.ble_eq_true_of_le hh] at hlt2; cases hlt2
          simp only [Option.some.injEq] at hr2; subst hr2
          refine ⟨_, w, β, ?_, Ext.refl _ _ _, ?_, VR.of_flat 6 _ hfl, Keep.refl _ _⟩
          · simp [Instr.next, Sem.run_bind, getObj, Sem.run, h1, hlt2]
          · refine hs.upd (Nat.le_refl _) i _ hset (fun _ _ h => h) (fun o' he => ?_) (fun j o' J hj hjo hJ => rfl)
            cases he
            exact ⟨I, hβ, hN', hlt, ⟨h1, h2⟩, fun j o' J hj hjo hJ => hs.far' hjo hao hJ hβ hj rfl⟩
  · exact evNextMap_ok hx
  · exact RunS.fail
/-- The entry that an iterator stands at. -/
def entryOf (it : Ao) : Ao → Option Value
  | .map es clk => match it with
    | .mapIt _ _ seen last => match seen.getLast? with
      | some st => match Nat.beq clk last with
        | true => match es.find? (fun e => e.born == st) with
          | some e => some (.tuple #[e.key, e.val])
          | none => none
        | false => none
      | none => none
    | _ => none
  | _ => none
def evEntry (x : Value) : Comp Value :=
  match x with
  | .pointer (some ⟨i, 0, none⟩) => bind (rd i) fun it => bind (ofOpt (overOf it)) fun m => match m with
    | none => fail
    | some m => bind (rd m) fun ao => ofOpt (entryOf it ao)
  | _ => fail
theorem PE.find [Env] {β : Mp} (p : Nat → Bool) {l l' : List MapEntry} (h : PE β l l') {e : MapEntry} (he : l.find? (fun e => p e.born) = some e) : ∃ e', l'.find? (fun e => p e.born) = some e' ∧ VR β e.key e'.key ∧ VR β e.val e'.val := by
  induction h with
  | nil => cases he
  | @cons a a' l l' h1 h2 h3 _ ih =>
    simp only [List.find?_cons, h3] at he ⊢
    cases hp : p a.born with
    | true =>
      rw [hp] at he
      cases he
      exact ⟨a', rfl, h1, h2⟩
    | false =>
      rw [hp] at he
      exact ih he
theorem run_entry {P : Program} {w : World} {r m since last st clk : Nat} {seen : Array Nat} {es : Array MapEntry} {e : MapEntry} (h1 : w.heap[r]? = some (.mapIter (some m) since seen last)) (h2 : w.heap[m]? = some (.map es clk)) (h3 : seen.back? = some st) (h4 : clk = last) (h5 : es.find? (fun e => e.born == st) = some e) :
    (Instr.entry (.pointer (some ⟨r, 0, none⟩))).run P w = .ok (.tuple #[e.key, e.val]) w := by
  have g1 : (getObj r).run P w = .ok (.mapIter (some m) since seen last) w := by simp [getObj, Sem.run, h1]
  have g2 : (getObj m).run P w = .ok (.map es clk) w := by simp [getObj, Sem.run, h2]
  unfold Instr.entry
  simp only
  rw [Sem.run_bind, g1]
  simp only [Result.andThen, h3]
  rw [Sem.run_bind, g2]
  simp [Result.andThen, h4, h5]
theorem evEntry_ok [Env] {x x' : Value} (hx : VR β x x') : RunS P N β (evEntry x) (Instr.entry x') := by
  unfold evEntry
  split
  · rename_i i
    cases hx with
    | @ptr _ I _ hβ =>
      refine RunS.rd fun it c h q w hq hao hs hN hfr => ?_
      refine Does.opt hq fun m q2 hr2 hq2 hc2 => ?_
      obtain ⟨I', hI, hN', hlt, hob⟩ := hs.obj i it hao
      rw [hβ] at hI; cases hI
      cases it with
      | row cs te g => cases hr2
      | map es clk => cases hr2
      | iter s p => cases hr2
      | mapIt mm since seen last =>
        simp only [overOf, Option.some.injEq] at hr2; subst hr2
        obtain ⟨hb, m', hm1, hm2⟩ := hob
        have hadr : (⟨I.blk, I.base + 0, none⟩ : Addr) = ⟨I.blk, 0, none⟩ := by rw [hb]
        rw [hadr]
        cases mm with
        | none => cases hq2
        | some k =>
          rcases hm2 with ⟨k', _⟩ | ⟨_, J, k1, hJ, rfl⟩
          · cases k'
          cases k1
          simp only at hq2
          obtain ⟨o3, q3, ho3, hq3, rfl⟩ := bind_some hq2
          simp only [ev.rd] at ho3
          split at ho3
          rotate_left
          · cases ho3
          rename_i ao hak
          simp only [Option.some.injEq] at ho3; subst ho3
          obtain ⟨r, hr, rfl⟩ := ofOpt_some hq3
          obtain ⟨J', hJ', _, hJl, hobj⟩ := hs.obj k ao hak
          rw [hJ] at hJ'; cases hJ'
          cases ao with
          | row cs te g => cases hr
          | iter s p => cases hr
          | mapIt a b c d => cases hr
          | map es clk =>
            obtain ⟨es', e1, e2, e3, e4⟩ := hobj
            have hpe : PE β es es'.toList := PE.of _ _ (by simpa using e3) (fun j e e' he he' => e4 j e e' he (by simpa using he'))
            simp only [entryOf] at hr
            split at hr
            rotate_left
            · cases hr
            rename_i st hst
            split at hr
            rotate_left
            · cases hr
            rename_i hclk
            split at hr
            rotate_left
            · cases hr
            rename_i e hfe
            simp only [Option.some.injEq] at hr; subst hr
            obtain ⟨e', he', v1, v2⟩ := hpe.find (fun b => b == st) hfe
            refine ⟨.tuple #[e'.key, e'.val], w, β, run_entry hm1 e1 (by simpa using hst) (Nat.of_beq hclk) (by simpa using he'), Ext.refl _ _ _, hs, ?_, Keep.refl _ _⟩
            have t := PW.arr (β := β) (c := #[e.key, e.val]) (c' := #[e'.key, e'.val]) (PW.cons v1 (PW.cons v2 (PW.nil β)))
            exact .tuple t.1 t.2
  · exact RunS.fail
/-! ### Zeros appended to nothing -/
def evAppMake (P : Program) (t tx : TypeId) (s : Value) (n : Nat) : Comp Value :=
  match s with
  | .slice none 0 0 => match P.underlying tx with
    | some (.int _) => match P.underlying t with
      | some (.slice e) => match P.info? e with
        | some i => match i.zero with
          | some z => gd (flat z && (Nat.beq z.cells.size i.size && (Nat.blt 0 i.size && (Nat.blt 0 n && (fits n i.bytes && (Builtin.zeroCells z.cells n).toList.all flat)))))
              (bind (nw (.row (.leaf (Builtin.zeroCells z.cells n).toList) e true)) fun k => ret (.slice (some ⟨k, 0, none⟩) n n))
          | none => fail
        | none => fail
      | _ => fail
    | _ => fail
  | _ => fail
theorem run_app_make {t tx ty e : TypeId} {k : IntKind} {i : TypeInfo} {z : Value} (ht : P.underlying t = some (.slice e)) (hk : P.underlying tx = some (.int k)) (hi : P.info? e = some i) (hz : i.zero = some z) {n : Nat} (h0 : 0 < n) (hn : n ≤ 2 ^ 40) (hfit : n * i.bytes ≤ 2 ^ 46) (hs : 0 < i.size) (w : World) :
    (Builtin.append_ #[t, tx] ty #[.slice none 0 0, .int .i64 (n : Int)]).run P w = .ok (.slice (some ⟨w.heap.size, 0, none⟩) n (grownCap w n 0 e))
        (w.drew.alloc (.cells (Builtin.zeroCells z.cells n ++ Builtin.zeroCells z.cells (grownCap w n 0 e - n)) e)) := by
  have hw : IntKind.i64.wrap (n : Int) = n := wrap_i64_nat hn
  have e1 : ¬ ((n : Int) < 0) := by omega
  have e2 : ¬ (281474976710656 < (n : Int) * (i.bytes : Int)) := by
    have : ((n * i.bytes : Nat) : Int) ≤ (2 ^ 46 : Nat) := by exact_mod_cast hfit
    rw [Int.natCast_mul] at this
    omega
  have e3 : ¬ (9223372036854775807 < (n : Int)) := by omega
  have e4 : ¬ (281474976710656 < Builtin.nextslicecap n 0 * i.bytes) := by
    have := growslice_fits (old := 0) (need := n) (bytes := i.bytes) (by omega) (by omega)
    omega
  have e5 : ¬ (n = 0) := by omega
  have e6 : ¬ (n * i.size = 0) := by
    intro h
    rcases Nat.mul_eq_zero.1 h with h | h <;> omega
  have e7 : ¬ (i.size = 0) := by omega
  simp [Builtin.append_, run_underlying ht, run_underlying hk, sizeOf, typeInfo, zeroValue, hi, hz, asInt, asIntOf, hw, e1, e2, e3, e4, e5, e6, e7, Question.forced, Builtin.firstCells, newRow, grownCap]
theorem evAppMake_ok [Env] {t tx ty : TypeId} {s s' : Value} {n : Nat} (hs : VR β s s') : RunS P N β (evAppMake P t tx s n) (Builtin.append_ #[t, tx] ty #[s', .int .i64 (n : Int)]) := by
  unfold evAppMake
  split
  · cases hs
    split
    · rename_i k hk
      split
      · rename_i e hu
        split
        · rename_i i hi
          split
          · rename_i z hz
            intro c h o w ho hs' hN hfr
            obtain ⟨hb, ho⟩ := gd_some ho
            simp only [Bool.and_eq_true] at hb
            obtain ⟨b1, b2, b3, b4, b5, hfl⟩ := hb
            have b2 := Nat.of_beq b2
            have b3 := blt_true b3
            have b4 := blt_true b4
            obtain ⟨hf1, hf2⟩ := fits_ok b5
            obtain ⟨o1, q1, ho1, hq1, rfl⟩ := bind_some ho
            obtain ⟨h', rfl, hset⟩ := nw_some ho1
            simp only [ev.ret, Option.some.injEq] at hq1; subst hq1
            have hrun := run_app_make (P := P) (ty := ty) hu hk hi hz b4 hf1 hf2 b3 w
            have hge := grownCap_ge w n 0 e
            have hlen : (Builtin.zeroCells z.cells n).toList.length = n * i.size := by
              rw [Array.length_toList, size_zeroCells, b2]
            obtain ⟨β', e1, e2, e3⟩ := hs'.grown hN (z := z) hi b3 b2 hge hset (hfr c (Nat.le_refl _) (by simp)) (PW.of_flat hfl) hlen
            refine ⟨_, _, β', hrun, e1, ?_, e3, Keep.grown w hN _⟩
            simpa using e2
          · exact RunS.fail
        · exact RunS.fail
      · exact RunS.fail
    · exact RunS.fail
  · exact RunS.fail
theorem run_mk_room {t tx ty e : TypeId} {k : IntKind} {i : TypeInfo} {z : Value} (ht : P.underlying t = some (.slice e)) (hk : P.underlying tx = some (.int k)) (hi : P.info? e = some i) (hz : i.zero = some z) {n b off sLen sCap : Nat} {w : World} (h0 : 0 < n) (hn : n ≤ 2 ^ 40) (hfit : n * i.bytes ≤ 2 ^ 46) (hs : 0 < i.size)
    {us : List Value} (hus : us = (Builtin.zeroCells z.cells n).toList) (h1 : ∀ u ∈ us, u.oneCell' = true) (hroom : sLen + n ≤ sCap) (hth : w.there b (off + sLen * i.size) us.length) :
    (Builtin.append_ #[t, tx] ty #[.slice (some ⟨b, off, none⟩) sLen sCap, .int .i64 (n : Int)]).run P w = .ok (.slice (some ⟨b, off, none⟩) (sLen + n) sCap) (w.setCells b (off + sLen * i.size) us) := by
  subst hus
  have hst := run_storeCells_cells (P := P) b (off + sLen * i.size) (Builtin.zeroCells z.cells n).toList 0 w (fun j hj => by simpa using (hth j hj).1) (fun j hj => by simpa using (hth j hj).2) h1
  simp only [Nat.add_zero] at hst
  have hw : IntKind.i64.wrap (n : Int) = n := wrap_i64_nat hn
  have e1 : ¬ ((n : Int) < 0) := by omega
  have e2 : ¬ (281474976710656 < (n : Int) * (i.bytes : Int)) := by
    have : ((n * i.bytes : Nat) : Int) ≤ (2 ^ 46 : Nat) := by exact_mod_cast hfit
    rw [Int.natCast_mul] at this
    omega
  have e5 : ¬ (n = 0) := by omega
  have e6 : ¬ (n * i.size = 0) := by
    intro h
    rcases Nat.mul_eq_zero.1 h with h | h <;> omega
  have e7 : ¬ (i.size = 0) := by omega
  simp [Builtin.append_, run_underlying ht, run_underlying hk, sizeOf, typeInfo, zeroValue, hi, hz, asInt, asIntOf, hw, e1, e2, e5, e6, e7, hroom, Addr.add_mid, hst]
theorem run_mk_grow {t tx ty e : TypeId} {k : IntKind} {i : TypeInfo} {z : Value} (ht : P.underlying t = some (.slice e)) (hk : P.underlying tx = some (.int k)) (hi : P.info? e = some i) (hz : i.zero = some z) {s : Value} {n sLen sCap : Nat} {base : Option Addr} {olds : List Value} {w : World} (h0 : 0 < n) (hn' : n ≤ 2 ^ 40) (hfit' : n * i.bytes ≤ 2 ^ 46) (hs0 : 0 < i.size)
    {us : List Value} (hus : us = (Builtin.zeroCells z.cells n).toList) (hs : s = .slice base sLen sCap)
    (holds : ∀ W : World, W.heap = w.heap → (Builtin.firstCells i.size sLen s).run P W = .ok olds.toArray W) (hg : sCap < sLen + n) (h63 : ((sLen + n : Nat) : Int) ≤ 9223372036854775807) (hfit : (sLen + n) * i.bytes ≤ 140737488355328) :
    (Builtin.append_ #[t, tx] ty #[s, .int .i64 (n : Int)]).run P w = .ok (.slice (some ⟨w.heap.size, 0, none⟩) (sLen + n) (grownCap w (sLen + n) sCap e))
        (w.drew.alloc (.cells (olds.toArray ++ us.toArray ++ Builtin.zeroCells z.cells (grownCap w (sLen + n) sCap e - (sLen + n))) e)) := by
  subst hs
  subst hus
  have hn : ¬ (sLen + n ≤ sCap) := by omega
  have h63' : ¬ (9223372036854775807 < ((sLen : Int) + (n : Int))) := by omega
  have h48' : ¬ (281474976710656 < Builtin.nextslicecap (sLen + n) sCap * i.bytes) := by have := growslice_fits (old := sCap) hg hfit; omega
  have hc2 := holds w.drew rfl
  have hw : IntKind.i64.wrap (n : Int) = n := wrap_i64_nat hn'
  have e1 : ¬ ((n : Int) < 0) := by omega
  have e2 : ¬ (281474976710656 < (n : Int) * (i.bytes : Int)) := by
    have : ((n * i.bytes : Nat) : Int) ≤ (2 ^ 46 : Nat) := by exact_mod_cast hfit'
    rw [Int.natCast_mul] at this
    omega
  have e5 : ¬ (n = 0) := by omega
  have e6 : ¬ (n * i.size = 0) := by
    intro h
    rcases Nat.mul_eq_zero.1 h with h | h <;> omega
  have e7 : ¬ (i.size = 0) := by omega
  simp [Builtin.append_, run_underlying ht, run_underlying hk, sizeOf, typeInfo, zeroValue, hi, hz, asInt, asIntOf, hw, e1, e2, e5, e6, e7, hn, h63', h48', Question.forced, hc2, newRow, grownCap]
/-- Zeros appended to a row. -/
def evMkRow (P : Program) (e : TypeId) (ii : TypeInfo) (vs : List Value) (i o l c n : Nat) : Comp Value :=
  gd (Nat.beq vs.length (n * ii.size) && (fits (l + n) ii.bytes && ones vs))
            (br (Nat.ble (l + n) c)
              (bind (rd i) fun ao => bind (ofOpt (growRow P e o l ii.size true vs ao)) fun r => bind (wr i (some r.1)) fun _ => ret (.slice (some ⟨i, o, none⟩) (l + n) c))
              (bind (rd i) fun ao => bind (ofOpt (growRow P e o l ii.size false vs ao)) fun r => br r.2
                (bind (wr i none) fun _ => bind (nw r.1) fun k => ret (.slice (some ⟨k, 0, none⟩) (l + n) (l + n)))
                (bind (nw r.1) fun k => ret (.slice (some ⟨k, 0, none⟩) (l + n) (l + n)))))
def evMkApp (P : Program) (t tx : TypeId) (s : Value) (n : Nat) : Comp Value :=
  match s with
  | .slice (some ⟨i, o, none⟩) l c => match P.underlying tx with
    | some (.int _) => match P.underlying t with
      | some (.slice e) => match P.info? e with
        | some ii => match ii.zero with
          | some z => gd (flat z && (Nat.beq z.cells.size ii.size && (Nat.blt 0 ii.size && (Nat.blt 0 n && (fits n ii.bytes && (Builtin.zeroCells z.cells n).toList.all flat)))))
              (evMkRow P e ii (Builtin.zeroCells z.cells n).toList i o l c n)
          | none => fail
        | none => fail
      | _ => fail
    | _ => fail
  | _ => evAppMake P t tx s n
set_option maxHeartbeats 2000000 in
theorem evMkRow_ok [Env] {t tx ty e : TypeId} {k : IntKind} {ii : TypeInfo} {z : Value} {i o l cc n : Nat} {s' : Value} (hsv : VR β (.slice (some ⟨i, o, none⟩) l cc) s') (hu : P.underlying t = some (.slice e)) (hk : P.underlying tx = some (.int k)) (hi : P.info? e = some ii) (hz : ii.zero = some z) (hzs : z.cells.size = ii.size) (h0 : 0 < ii.size) (hn0 : 0 < n) (hf0 : n ≤ 2 ^ 40) (hbz : n * ii.bytes ≤ 2 ^ 46)
    (hfl : (Builtin.zeroCells z.cells n).toList.all flat = true) : RunS P N β (evMkRow P e ii (Builtin.zeroCells z.cells n).toList i o l cc n) (Builtin.append_ #[t, tx] ty #[s', .int .i64 (n : Int)]) := by
  obtain ⟨a', c', rfl, _⟩ := hsv.slice_form trivial
  unfold evMkRow
  intro c h q w hq hs hN hfr
  obtain ⟨vs, hvs⟩ : ∃ vs, vs = (Builtin.zeroCells z.cells n).toList := ⟨_, rfl⟩
  obtain ⟨us, hus⟩ : ∃ us, us = (Builtin.zeroCells z.cells n).toList := ⟨_, rfl⟩
  have hp : PW β vs us := by rw [hvs, hus]; exact PW.of_flat hfl
  rw [← hvs] at hq
  cases hsv with
  | @sl _ I a' _ _ _ _ hβ h1 h2 h3 h4 =>
    obtain ⟨hb, hq⟩ := gd_some hq
    · simp only [Bool.and_eq_true] at hb
      have hb1 := Nat.of_beq hb.1
      obtain ⟨hf1, hf2⟩ := fits_ok hb.2.1
      have hones := hp.oneCell hb.2.2
      have hul : us.length = n * ii.size := by rw [← hp.1]; exact hb1
      rcases br_some hq with ⟨hroom, hq⟩ | ⟨hroom, hq⟩
      · -- there is room
        have hroom := Nat.le_of_ble_eq_true hroom
        refine Does.rd hq fun ao q1 hao hq1 hc1 => ?_
        refine Does.opt hq1 fun r q2 hr2 hq2 hc2 => ?_
        obtain ⟨o3, q3, ho3, hq3, rfl⟩ := bind_some hq2
        obtain ⟨h', rfl, hset⟩ := wr_some ho3
        simp only [ev.ret, Option.some.injEq] at hq3; subst hq3
        obtain ⟨I', hI, hN', hlt, hob⟩ := hs.obj i ao hao
        rw [hβ] at hI; cases hI
        cases ao with
        | map es clk => cases hr2
        | iter q0 p0 => cases hr2
        | mapIt q0 q1 q2 q3 => cases hr2
        | row C te g =>
          obtain ⟨hok, ws, hpw, hcl, hra, hth, _, _⟩ := hob
          simp only [growRow] at hr2
          split at hr2
          · rename_i hfit
            have hfit := Nat.le_trans (Nat.le_of_ble_eq_true hfit) (Cs.len_ok C hok)
            split at hr2
            rotate_left
            · cases hr2
            rename_i C' hput
            have hns := Cs.put_sym hput
            have hth := nosym hns hth
            have hN' := nosym hns hN'
            have hput := Cs.put_ok _ _ _ _ _ hok hfit hput
            simp only [Option.some.injEq] at hr2; subst hr2
            have ha : a' = ⟨I.blk, I.base + o, none⟩ := by
              rcases h4 with h4 | h4
              · exact h4
              · omega
            subst ha
            have hth' : w.there I.blk (I.base + o + l * ii.size) us.length := by
              rw [Nat.add_assoc]
              exact there_sub hth (by rw [← hp.1]; omega)
            have hrun := run_mk_room (P := P) (ty := ty) hu hk hi hz hn0 hf0 hbz h0 hus hones (by omega : l + n ≤ c') hth'
            have hsim := hs.write hao hns hβ (by rw [Nat.add_comm] at hfit; omega : (o + l * ii.size) + vs.length ≤ C.list.length) hp hput hset
            rw [← Nat.add_assoc] at hsim
            exact ⟨_, _, β, hrun, Ext.refl _ _ _, hsim, .sl o (l + n) cc c' hβ hroom h2 h3 (.inl rfl), Keep.setCells _ hN' _ _ _⟩
          · cases hr2
      · -- there is none
        have hroom : cc < l + n := by
          rcases Nat.lt_or_ge cc (l + n) with hh | hh
          · exact hh
          · rw [Nat.ble_eq_true_of_le hh] at hroom; cases hroom
        refine Does.rd hq fun ao q1 hao hq1 hc1 => ?_
        refine Does.opt hq1 fun r q2 hr2 hq2 hc2 => ?_
        obtain ⟨I', hI, hN', hlt, hob⟩ := hs.obj i ao hao
        rw [hβ] at hI; cases hI
        cases ao with
        | map es clk => cases hr2
        | iter q0 p0 => cases hr2
        | mapIt q0 q1 q2 q3 => cases hr2
        | row C te g =>
          obtain ⟨hok, ws, hpw, hcl, hra, hth, hg0, hg1⟩ := hob
          simp only [growRow] at hr2
          split at hr2
          · rename_i hold
            have hold := Nat.of_beq hold
            have hs0 := Cs.sub_ok C _ _ hok hold
            rw [hs0] at hold hr2
            generalize hcs : C.list = cs at hpw hcl hr2 hold
            have hpo := (hpw.drop o).take (l * ii.size)
            have hnew := hpo.append hp
            have hnl : ((cs.drop o).take (l * ii.size) ++ vs).length = (l + n) * ii.size := by rw [List.length_append, hold, hb1, ← Nat.add_mul]
            have holds : ∀ W : World, W.heap = w.heap → (Builtin.firstCells ii.size l (.slice (some a') l c')).run P W = .ok ((ws.drop o).take (l * ii.size)).toArray W := fun W hW => by
              cases l with
              | zero => simpa using firstCells_zero (sz := ii.size) (a := some a') (l := 0) (c := c') W
              | succ l =>
                have ha : a' = ⟨I.blk, I.base + o, none⟩ := by
                  rcases h4 with h4 | h4
                  · exact h4
                  · omega
                subst ha
                refine run_firstCells_some (P := P) W ii.size (l + 1) _ (l + 1) c' _ (by rw [← hpo.1]; exact hold) (fun j u hu => ?_)
                rw [Addr.add_mid]
                have := range_sub hra j u hu
                rw [World.cell?_of_block (w := w) (by rw [hW])]
                exact this
            have grow : ∀ (hh : Tr) (cc0 : Nat) (hh' : Tr), Sim P N β hh w → β cc0 = none → c' < l + n → Tr.set dep hh cc0 (some (.row (.leaf ((cs.drop o).take (l * ii.size) ++ vs)) e true)) = some hh' →
                ∃ v' w' β', (Builtin.append_ #[t, tx] ty #[.slice (some a') l c', .int .i64 (n : Int)]).run P w = .ok v' w' ∧ Ext cc0 (cc0 + 1) β β' ∧ Sim P N β' hh' w' ∧ VR β' (.slice (some ⟨cc0, 0, none⟩) (l + n) (l + n)) v' ∧ Keep N w w' := fun hh cc0 hh' hsim hfc hlt' hset => by
              have hrun := run_mk_grow (P := P) (ty := ty) (w := w) hu hk hi hz hn0 hf0 hbz h0 (s := .slice (some a') l c') hus rfl holds hlt' (by omega) (by omega)
              have hge := grownCap_ge w (l + n) c' e
              obtain ⟨β', e1, e2, e3⟩ := hsim.grown hN (z := z) hi h0 hzs hge hset hfc hnew hnl
              refine ⟨_, _, β', hrun, e1, ?_, e3, Keep.grown w hN _⟩
              simpa using e2
            split at hr2
            · -- it may have hidden room
              split at hr2
              · rename_i z2 hz2
                split at hr2
                · rename_i hzb
                  rw [Bool.and_eq_true, Bool.and_eq_true] at hzb
                  have hte := Nat.of_beq hzb.2
                  have hzsz := Nat.of_beq hzb.1.1
                  have hns := notSym_ok hzb.1.2
                  have hth := nosym hns hth
                  have hN' := nosym hns hN'
                  simp only [Option.some.injEq] at hr2; subst hr2
                  replace hq2 := (br_some hq2).resolve_right (fun e => by cases e.1)
                  obtain ⟨_, hq2⟩ := hq2
                  obtain ⟨o3, q3, ho3, hq3, rfl⟩ := bind_some hq2
                  obtain ⟨h1', rfl, hset1⟩ := wr_some ho3
                  obtain ⟨o4, q4, ho4, hq4, rfl⟩ := bind_some hq3
                  obtain ⟨h2', rfl, hset2⟩ := nw_some ho4
                  simp only [ev.ret, Option.some.injEq] at hq4; subst hq4
                  simp only at hc1 hc2
                  have hfc : β c = none := hfr c (Nat.le_refl _) (by rw [← hc1, ← hc2]; simp)
                  have hsk := hs.kill i hset1
                  by_cases hcap : c' < l + n
                  · exact grow h1' c h2' hsk hfc hcap hset2
                  · -- in place
                    have hcap : l + n ≤ c' := by omega
                    obtain ⟨hI1, hI0⟩ := hg1.1 rfl
                    have hIsz : I.sz = ii.size := by
                      have : some I.sz = some z2 := hI1.symm.trans hz2
                      simp only [Option.some.injEq] at this
                      omega
                    have ha : a' = ⟨I.blk, I.base + o, none⟩ := by
                      rcases h4 with h4 | h4
                      · exact h4
                      · omega
                    subst ha
                    rcases h3 with h3 | ⟨d1, d2, d3⟩
                    · omega
                    rw [hIsz] at d2 d3
                    have hm1 : (l + n) * ii.size ≤ c' * ii.size := Nat.mul_le_mul_right _ hcap
                    have hm2 : (l + n) * ii.size = l * ii.size + n * ii.size := Nat.add_mul _ _ _
                    have hth' : w.there I.blk (I.base + o + l * ii.size) us.length := by
                      rw [Nat.add_assoc]
                      exact there_sub hth (by rw [hul]; omega)
                    have hrun := run_mk_room (P := P) (ty := ty) hu hk hi hz hn0 hf0 hbz h0 hus hones hcap hth'
                    have hrow : o + l * ii.size ≤ cs.length := by
                      have h5 : ((cs.drop o).take (l * ii.size)).length = l * ii.size := hold
                      rw [List.length_take, List.length_drop] at h5
                      by_cases hl0 : l * ii.size = 0
                      · have : l ≤ cc := h1
                        have : l * ii.size ≤ cc * ii.size := Nat.mul_le_mul_right _ h1
                        rw [hcl]; omega
                      · omega
                    let J : Im := ⟨I.blk, I.base + o, (l + n) * ii.size, I.n + I.room - o - (l + n) * ii.size, ii.size⟩
                    let β' : Mp := fun k => if k = c then some J else β k
                    have hb' : ∀ k K, β k = some K → β' k = some K := fun k K hk' => by
                      show (if k = c then some J else β k) = some K
                      rw [if_neg (by rintro rfl; rw [hfc] at hk'; cases hk')]; exact hk'
                    have hJ : β' c = some J := if_pos rfl
                    have hfar : ∀ k o' K, Tr.get dep h1' k = some o' → β k = some K → K.blk ≠ I.blk := fun k o' K hk' hK => by
                      rw [hset1] at hk'
                      split at hk'
                      · cases hk'
                      · rename_i hne
                        exact hs.far (o := .row C te true) hns hk' hao hK hβ hne
                    refine ⟨_, _, β', hrun, ⟨hb', fun k hk' => ?_⟩, ?_, ?_, Keep.setCells _ hN' _ _ _⟩
                    · by_cases e : k = c
                      · simp only; omega
                      · exact absurd (if_neg e) hk'
                    · refine hsk.upd (by rw [size_setCells']; exact Nat.le_refl _) c _ (Tr.get_set _ _ _ _ _ hset2) hb' (fun ob he => ?_) (fun k o' K hk' hk2 hK => ?_)
                      · cases he
                        refine ⟨J, hJ, hN', by rw [size_setCells']; exact hlt, ⟨trivial, (ws.drop o).take (l * ii.size) ++ us, hnew.mono hb', hnl, ?_, .inr ?_, fun hh => (by cases hh), fun _ => ⟨by simp [hi, J], h0⟩, .inr (FZ.setCells _ _ (hte ▸ nosym hns hg1.2))⟩, fun k o' K hk' hk2 hK => hfar k o' K hk2 hK⟩
                        · show (w.setCells I.blk (I.base + o + l * ii.size) us).rangeAt I.blk (I.base + o) _
                          intro j v hv
                          rw [List.getElem?_append] at hv
                          have hwl : ((ws.drop o).take (l * ii.size)).length = l * ii.size := by rw [← hpo.1]; exact hold
                          split at hv
                          · have h6 : w.rangeAt I.blk (I.base + o) ((ws.drop o).take (l * ii.size)) := range_sub hra
                            exact World.rangeAt_setCells_apart h6 _ _ us (.inr (.inl (by rw [hwl]; omega))) j v hv
                          · rename_i hj
                            rw [hwl] at hv hj
                            have := World.rangeAt_setCells_same w I.blk (I.base + o + l * ii.size) us hth' _ v hv
                            rwa [show I.base + o + l * ii.size + (j - l * ii.size) = I.base + o + j from by omega] at this
                        · show (w.setCells I.blk (I.base + o + l * ii.size) us).there I.blk (I.base + o) ((l + n) * ii.size + (I.n + I.room - o - (l + n) * ii.size))
                          refine World.there_setCells (there_sub hth ?_) _ _ _
                          omega
                      · exact heap_setCells_other _ _ (hfar k o' K hk2 hK) _ _ _
                    · have := VR.sl (β := β') (a' := ⟨I.blk, I.base + o, none⟩) 0 (l + n) (l + n) c' hJ (Nat.le_refl _) hcap (.inr ⟨h0, by simp [J], ?_⟩) (.inl (by simp [J]))
                      · exact this
                      · show 0 + c' * ii.size ≤ (l + n) * ii.size + (I.n + I.room - o - (l + n) * ii.size)
                        omega
                · cases hr2
              · cases hr2
            · -- it has none
              simp only [Option.some.injEq] at hr2; subst hr2
              replace hq2 := (br_some hq2).resolve_left (fun e => by cases e.1)
              obtain ⟨_, hq2⟩ := hq2
              obtain ⟨o4, q4, ho4, hq4, rfl⟩ := bind_some hq2
              obtain ⟨h2', rfl, hset2⟩ := nw_some ho4
              simp only [ev.ret, Option.some.injEq] at hq4; subst hq4
              simp only at hc1 hc2
              have hfc : β c = none := hfr c (Nat.le_refl _) (by rw [← hc1, ← hc2]; simp)
              have hcc : c' = cc := by
                rcases h3 with h3 | ⟨d1, d2, d3⟩
                · exact h3
                · rcases (hg0 rfl).1 with hr0 | hr0
                  rotate_left
                  · omega
                  rw [hr0] at d3
                  have : c' * I.sz ≤ cc * I.sz := by omega
                  have := Nat.le_of_mul_le_mul_right this d1
                  omega
              exact grow h c h2' hs hfc (by omega) hset2
          · cases hr2
def evApp (P : Program) (t tx : TypeId) (s : Value) : Value → Comp Value
  | .int .i64 (.ofNat n) => evMkApp P t tx s n
  | x => evAppend P t tx s x
theorem evMkApp_ok [Env] {t tx ty : TypeId} {s s' : Value} {n : Nat} (hs : VR β s s') : RunS P N β (evMkApp P t tx s n) (Builtin.append_ #[t, tx] ty #[s', .int .i64 (n : Int)]) := by
  unfold evMkApp
  split
  · split
    · rename_i k hk
      split
      · rename_i e hu
        split
        · rename_i ii hi
          split
          · rename_i z hz
            intro c h o w ho hs' hN hfr
            obtain ⟨hb, ho⟩ := gd_some ho
            simp only [Bool.and_eq_true] at hb
            obtain ⟨b1, b2, b3, b4, b5, hfl⟩ := hb
            obtain ⟨hf1, hf2⟩ := fits_ok b5
            exact evMkRow_ok hs hu hk hi hz (Nat.of_beq b2) (blt_true b3) (blt_true b4) hf1 hf2 hfl c h o w ho hs' hN hfr
          · exact RunS.fail
        · exact RunS.fail
      · exact RunS.fail
    · exact RunS.fail
  · exact evAppMake_ok hs
theorem evApp_ok [Env] {t tx ty : TypeId} {s x s' x' : Value} (hsv : VR β s s') (hx : VR β x x') : RunS P N β (evApp P t tx s x) (Builtin.append_ #[t, tx] ty #[s', x']) := by
  unfold evApp
  split
  · rw [hx.int_eq]; exact evMkApp_ok hsv
  · exact evAppend_ok hsv hx
end Go.Proofs.Ytdpmjghdmpaehaa.ev
