/-
  The operations, one by one: what the small memory's computation says is what the model does. Conditions: none.
-/
import Derived.Test.YtdpmjghdmpaehaaEvB
import Derived.WalkSpells
namespace Go.Proofs.Ytdpmjghdmpaehaa.ev
set_option linter.unusedVariables false
set_option linter.unusedSimpArgs false
variable {P : Program} {N : Nat} {β : Mp}
def Does [Env] (P : Program) (N : Nat) (β : Mp) (c : Nat) (h : Tr) (w : World) (o : Out Value) (s : Sem Value) : Prop :=
  ∃ v' w' β', s.run P w = .ok v' w' ∧ Ext c o.c β β' ∧ Sim P N β' o.h w' ∧ VR β' o.a v' ∧ Keep N w w'
theorem RunS.rd [Env] {i : Nat} {f : Ao → Comp Value} {s : Sem Value} (hf : ∀ ao c h o w, f ao c h = some o → Tr.get dep h i = some ao → Sim P N β h w → N ≤ w.heap.size → (∀ i, c ≤ i → i < o.c → β i = none) → Does P N β c h w o s) :
    RunS P N β (bind (rd i) f) s := fun c h p w he hs hN hfr => by
  obtain ⟨o, q, ho, hq, rfl⟩ := bind_some he
  simp only [ev.rd] at ho
  split at ho
  · rename_i ao hao
    simp only [Option.some.injEq] at ho; subst ho
    exact hf ao c h q w hq hao hs hN hfr
  · cases ho
theorem Does.ret [Env] {c : Nat} {h : Tr} {w : World} {s : Sem Value} {v v' : Value} {o : Out Value} (ho : ret v c h = some o) (hs : Sim P N β h w) (hv : VR β v v') (hr : s.run P w = .ok v' w) : Does P N β c h w o s := by
  simp only [ev.ret, Option.some.injEq] at ho; subst ho
  exact ⟨v', w, β, hr, Ext.refl _ _ _, hs, hv, Keep.refl _ _⟩
theorem run_isAgg {t : TypeId} {d : TypeDesc} (hu : P.underlying t = some d) (w : World) : (isAgg t).run P w = .ok d.isRow w := by
  unfold isAgg
  rw [Sem.run_bind, run_underlying hu w]
  cases d <;> rfl
theorem run_sizeOf {t : TypeId} {n : Nat} (hi : (P.info? t).map (·.size) = some n) (w : World) : (sizeOf t).run P w = .ok n w := by
  cases hq : P.info? t with
  | none => simp [hq] at hi
  | some i => simp [hq] at hi; simp [sizeOf, typeInfo, hq, hi]
abbrev szOf (P : Program) (t : TypeId) : Option Nat := (P.info? t).map (·.size)
def loadRow (P : Program) (t : TypeId) (o : Nat) : Ao → Option Value
  | .row C _ _ => match P.underlying t with
      | some d => match d.isRow with
        | true => match szOf P t with
          | some n => match Nat.beq (C.sub o n).length n with
            | true => some (.agg (C.sub o n).toArray)
            | false => none
          | none => none
        | false => C.get o
      | none => none
  | _ => none
def evLoad (P : Program) (t : TypeId) : Value → Comp Value
  | .pointer (some ⟨i, o, none⟩) => bind (rd i) fun ao => ofOpt (loadRow P t o ao)
  | _ => fail
theorem ofOpt_some {α : Type} {x : Option α} {c : Nat} {h : Tr} {o : Out α} (he : ofOpt x c h = some o) : ∃ a, x = some a ∧ o = ⟨a, c, h, 0, 0⟩ := by
  cases x with
  | none => cases he
  | some a => simp only [ofOpt, ev.ret, Option.some.injEq] at he; exact ⟨a, rfl, he.symm⟩
theorem Does.val [Env] {c : Nat} {h : Tr} {w : World} {s : Sem Value} {v v' : Value} (hs : Sim P N β h w) (hv : VR β v v') (hr : s.run P w = .ok v' w) : Does P N β c h w ⟨v, c, h, 0, 0⟩ s :=
  ⟨v', w, β, hr, Ext.refl _ _ _, hs, hv, Keep.refl _ _⟩
theorem Nat.of_beq {a b : Nat} (h : Nat.beq a b = true) : a = b := Nat.eq_of_beq_eq_true h
theorem range_sub {w : World} {b o k n : Nat} {vs : List Value} (h : w.rangeAt b o vs) : w.rangeAt b (o + k) ((vs.drop k).take n) := fun j v hv => by
  rw [List.getElem?_take] at hv
  split at hv
  · rw [List.getElem?_drop] at hv
    have := h _ _ hv
    rwa [show o + k + j = o + (k + j) from by omega]
  · cases hv
theorem evLoad_ok [Env] {t : TypeId} {p p' : Value} (hp : VR β p p') : RunS P N β (evLoad P t p) (Instr.loadAt t p') := by
  cases hp with
  | @ptr i I o hβ =>
    simp only [evLoad]
    refine RunS.rd fun ao c h q w hq hao hs hN hfr => ?_
    obtain ⟨I', hI, hN', hlt, hob⟩ := hs.obj i ao hao
    rw [hβ] at hI; cases hI
    obtain ⟨v, hv, rfl⟩ := ofOpt_some hq
    cases ao with
    | map es clk => cases hv
    | iter q0 p0 => cases hv
    | mapIt q0 q1 q2 q3 => cases hv
    | row C te g =>
      obtain ⟨hok, vs, hpw, hlen, hra, hth, _, _⟩ := hob
      simp only [loadRow] at hv
      split at hv
      · rename_i d hd
        split at hv
        · rename_i hrow
          split at hv
          · rename_i n hn
            split at hv
            · rename_i hb
              have hb := Nat.of_beq hb
              have hs0 := Cs.sub_ok C _ _ hok hb
              rw [hs0] at hb hv
              simp only [Option.some.injEq] at hv; subst hv
              have hpw' := (hpw.drop o).take n
              refine Does.val hs hpw'.agg ?_
              exact run_loadAt_mid w I.blk (I.base + o) t _ d (range_sub hra) hd hrow (by rw [← hpw'.1, hb]; exact hn)
            · cases hv
          · cases hv
        · rename_i hrow
          obtain ⟨v', hv', hvr⟩ := hpw.get (Cs.get_ok C _ _ hok hv)
          refine Does.val hs hvr ?_
          have hc := hra _ _ hv'
          simp [Instr.loadAt, Instr.sureAddr, loadVar, Sem.run_bind, run_isAgg hd, hrow, load, Sem.run, hc]
      · cases hv
  | _ => exact RunS.fail
theorem PW.splice [Env] {cs vs xs ys : List Value} (h : PW β cs vs) (k : PW β xs ys) (o : Nat) : PW β (splice cs o xs) (splice vs o ys) := by
  unfold ev.splice
  rw [← k.1]
  exact ((h.take o).append k).append (h.drop _)
theorem there_sub {w : World} {b o n k m : Nat} (h : w.there b o n) (hk : k + m ≤ n) : w.there b (o + k) m := fun j hj => by
  have := h (k + j) (by omega)
  rwa [show o + k + j = o + (k + j) from by omega]
/-- Cells written into a range that is known: what the range holds then. -/
theorem range_splice [Env] {w : World} {b o k : Nat} {vs ys : List Value} (h : w.rangeAt b o vs) (ht : w.there b o vs.length) (hk : k + ys.length ≤ vs.length) : (w.setCells b (o + k) ys).rangeAt b o (splice vs k ys) := fun j v hv => by
  have hsame := World.rangeAt_setCells_same w b (o + k) ys (there_sub ht hk)
  simp only [splice] at hv
  rw [List.getElem?_append] at hv
  split at hv
  · rename_i hj
    rw [List.getElem?_append] at hv
    split at hv
    · rename_i hj2
      have hlt : j < k := by simp at hj2; omega
      have hap := World.rangeAt_setCells_apart (w := w) (b' := b) (o' := o) (cs := vs.take k) (fun j v hv => h j v (by rw [List.getElem?_take] at hv; split at hv; exact hv; cases hv)) b (o + k) ys (Or.inr (Or.inl (by simp; omega)))
      exact hap j v hv
    · rename_i hj2
      have he : (vs.take k).length = k := by simp; omega
      rw [he] at hv hj2
      have := hsame (j - k) v hv
      rwa [show o + k + (j - k) = o + j from by omega] at this
  · rename_i hj
    have he : (vs.take k ++ ys).length = k + ys.length := by simp; omega
    rw [he] at hv hj
    rw [List.getElem?_drop] at hv
    have hap := World.rangeAt_setCells_apart (w := w) (b' := b) (o' := o + (k + ys.length)) (cs := vs.drop (k + ys.length)) (fun j v hv => by
      rw [List.getElem?_drop] at hv
      have := h _ _ hv
      rwa [show o + (k + ys.length) + j = o + (k + ys.length + j) from by omega]) b (o + k) ys (Or.inr (Or.inr (by omega)))
    have := hap (j - (k + ys.length)) v (by rw [List.getElem?_drop]; exact hv)
    rwa [show o + (k + ys.length) + (j - (k + ys.length)) = o + j from by omega] at this
theorem Sim.write [Env] {h h' : Tr} {w : World} (hs : Sim P N β h w) {i : Nat} {C C' : Cs} {xs ys : List Value} {te : TypeId} {g : Bool} {I : Im} (hi : Tr.get dep h i = some (.row C te g)) (hns : C.isSym = false) (hβ : β i = some I) {k : Nat} (hk : k + xs.length ≤ C.list.length) (hxy : PW β xs ys) (hC' : C'.ok ∧ C'.list = splice C.list k xs)
    (hset : ∀ j, Tr.get dep h' j = if j = i then some (.row C' te g) else Tr.get dep h j) :
    Sim P N β h' (w.setCells I.blk (I.base + k) ys) := by
  obtain ⟨I', hI, hN', hlt, hob⟩ := hs.obj i _ hi
  rw [hβ] at hI; cases hI
  obtain ⟨hok, vs, hpw, hlen, hra, hth, hr1, hr2⟩ := hob
  have hN' := nosym hns hN'
  have hth := nosym hns hth
  refine hs.upd (by rw [size_setCells']; exact Nat.le_refl _) i _ hset (fun _ _ h => h) (fun o he => ?_) (fun j o J hj hjo hJ => ?_)
  · cases he
    refine ⟨I, hβ, hN', by rw [size_setCells']; exact hlt, ⟨hC'.1, splice vs k ys, by rw [hC'.2]; exact hpw.splice hxy k, by rw [hC'.2, splice_length hk]; exact hlen, ?_, .inr (World.there_setCells hth _ _ _), hr1, hr2.1, .inr (FZ.setCells _ _ (nosym hns hr2.2))⟩, fun j o' J hj hjo hJ => ?_⟩
    · refine range_splice hra (fun j hj => hth j ?_) (by rw [← hxy.1, ← hpw.1]; exact hk)
      rw [← hpw.1, hlen] at hj; omega
    · exact hs.far (o := .row C te g) hns hjo hi hJ hβ hj
  · exact heap_setCells_other _ _ (hs.far (o := .row C te g) hns hjo hi hJ hβ hj) _ _ _
/-- Is each one cell? -/
def ones (l : List Value) : Bool := l.all (·.oneCell')
def storeRow (P : Program) (t : TypeId) (o : Nat) (xs : List Value) : Ao → Option Ao
  | .row C te g => match szOf P t with
      | some n => match Nat.beq xs.length n && (Nat.ble (o + xs.length) C.len && ones xs) with
        | true => match Cs.put 64 C o xs with
          | some C' => some (.row C' te g)
          | none => none
        | false => none
      | none => none
  | _ => none
def evStore (P : Program) (t : TypeId) : Value → Value → Comp Value
  | .pointer (some ⟨i, o, none⟩), v => bind (rd i) fun ao => bind (ofOpt (storeRow P t o v.cells.toList ao)) fun x => bind (wr i (some x)) fun _ => ret undef
  | _, _ => fail
theorem run_storeVar_any [Env] {w : World} {b o : Nat} {t : TypeId} {v : Value} (ht : w.there b o v.cells.toList.length) (hi : szOf P t = some v.cells.toList.length) (h1 : ∀ u ∈ v.cells.toList, u.oneCell' = true) :
    (Instr.storeAt t (.pointer (some ⟨b, o, none⟩)) v).run P w = .ok () (w.setCells b o v.cells.toList) := by
  have := run_storeCells_cells (P := P) b o v.cells.toList 0 w (fun j hj => by simpa using (ht j (by simpa using hj)).1) (fun j hj => by simpa using (ht j (by simpa using hj)).2) h1
  simp only [Nat.add_zero] at this
  have hsz := run_sizeOf (P := P) hi w
  simp [Instr.storeAt, Instr.sureAddr, storeVar, Sem.run_bind, hsz, this]
theorem VR.undef [Env] : VR β undef undef := VR.of_flat 6 _ rfl
theorem evStore_ok [Env] {t : TypeId} {p p' v v' : Value} (hp : VR β p p') (hv : VR β v v') : RunS P N β (evStore P t p v) (do Instr.storeAt t p' v'; pure undef) := by
  cases hp with
  | @ptr i I o hβ =>
    simp only [evStore]
    refine RunS.rd fun ao c h q w hq hao hs hN hfr => ?_
    obtain ⟨I', hI, hN', hlt, hob⟩ := hs.obj i ao hao
    rw [hβ] at hI; cases hI
    obtain ⟨o0, q0, ho0, hq0, rfl⟩ := bind_some hq
    obtain ⟨x, hx, rfl⟩ := ofOpt_some ho0
    obtain ⟨o1, q1, ho1, hq1, rfl⟩ := bind_some hq0
    cases ao with
    | map es clk => cases hx
    | iter q0 p0 => cases hx
    | mapIt q0 q1 q2 q3 => cases hx
    | row C te g =>
      obtain ⟨hok, vs, hpw, hlen, hra, hth, _, _⟩ := hob
      simp only [storeRow] at hx
      split at hx
      · rename_i n hn
        split at hx
        · rename_i hb
          split at hx
          rotate_left
          · cases hx
          rename_i C' hput
          simp only [Option.some.injEq] at hx; subst hx
          simp only [Bool.and_eq_true, ones] at hb
          obtain ⟨hb1, hb2, hb3⟩ := hb
          have hb1 := Nat.of_beq hb1
          have hb2 := Nat.le_trans (Nat.le_of_ble_eq_true hb2) (Cs.len_ok C hok)
          have hns := Cs.put_sym hput
          have hth := nosym hns hth
          simp only [wr] at ho1
          rw [hao] at ho1
          simp only at ho1
          split at ho1
          · rename_i h' hset
            simp only [Option.some.injEq] at ho1; subst ho1
            simp only [ev.ret, Option.some.injEq] at hq1; subst hq1
            have hxy := hv.cells
            have hsim := hs.write hao hns hβ hb2 hxy (Cs.put_ok _ _ _ _ _ hok hb2 hput) (Tr.get_set _ _ _ _ _ hset)
            refine ⟨undef, _, β, ?_, Ext.refl _ _ _, hsim, VR.undef, Keep.setCells _ (nosym hns hN') _ _ _⟩
            have hth' : w.there I.blk (I.base + o) v'.cells.toList.length := there_sub hth (by rw [← hxy.1]; omega)
            have := run_storeVar_any (P := P) hth' (t := t) (v := v') (by rw [← hxy.1, hb1]; exact hn) (hxy.oneCell hb3)
            simp only [Sem.run_bind, this, Result.andThen_ok, Sem.run_pure]
          · cases ho1
        · cases hx
      · cases hx
  | _ => exact RunS.fail
/-- A new row. -/
def evNew (C : Cs) (t : TypeId) (k : Nat → Value) : Comp Value := bind (nw (.row C t false)) fun i => ret (k i)
theorem evNew_ok [Env] {C : Cs} {vs : List Value} {t : TypeId} {k k' : Nat → Value} {s : Sem Value} (hok : C.ok) (hp : PW β C.list vs)
    (hr : ∀ w, s.run P w = .ok (k' w.heap.size) (w.alloc (.cells vs.toArray t)))
    (hv : ∀ (β' : Mp) i I, β' i = some I → I.base = 0 → I.n = C.list.length → I.room = 0 → VR β' (k i) (k' I.blk)) : RunS P N β (evNew C t k) s := fun c h o w he hs hN hf => by
  obtain ⟨o1, q1, ho1, hq1, rfl⟩ := bind_some he
  simp only [nw] at ho1
  split at ho1
  · rename_i h' hset
    simp only [Option.some.injEq] at ho1; subst ho1
    simp only [ev.ret, Option.some.injEq] at hq1; subst hq1
    obtain ⟨e1, e2, e3⟩ := hs.alloc hN hset (hf c (Nat.le_refl _) (by simp)) ⟨w.heap.size, 0, C.list.length, 0, 0⟩ rfl (.cells vs.toArray t) (fun β' hb => ObR.new hok (hp.mono hb) rfl rfl rfl rfl)
    exact ⟨_, _, _, hr w, e1, e2, hv _ c ⟨w.heap.size, 0, C.list.length, 0, 0⟩ e3 rfl rfl rfl, Keep.alloc w hN _⟩
  · cases ho1
def evAlloc (P : Program) (t : TypeId) : Comp Value :=
  match (P.info? t).bind (·.zero) with
  | some z => match flat z with
    | true => evNew (.leaf z.cells.toList) t fun i => .pointer (some ⟨i, 0, none⟩)
    | false => fail
  | none => fail
theorem VR.ptr0 [Env] {β' : Mp} {i : Nat} {I : Im} (h : β' i = some I) (hb : I.base = 0) : VR β' (.pointer (some ⟨i, 0, none⟩)) (.pointer (some ⟨I.blk, 0, none⟩)) := by
  have := VR.ptr (β := β') 0 h
  rwa [hb] at this
theorem run_zero {t : TypeId} {z : Value} (hz : (P.info? t).bind (·.zero) = some z) (w : World) : (zeroValue t).run P w = .ok z w := by
  cases hq : P.info? t with
  | none => simp [hq] at hz
  | some i => simp [hq] at hz; simp [zeroValue, typeInfo, hq, hz]
theorem evAlloc_ok [Env] {t : TypeId} : RunS P N β (evAlloc P t) (Instr.alloc t true (.tuple #[])) := by
  unfold evAlloc
  split
  · rename_i z hz
    split
    · rename_i hfl
      refine evNew_ok (vs := z.cells.toList) (k' := fun b => .pointer (some ⟨b, 0, none⟩)) trivial (VR.of_flat (β := β) 6 z hfl).cells (fun w => ?_) (fun β' i I hi hb _ _ => VR.ptr0 hi hb)
      simp [Instr.alloc, Sem.run_bind, run_zero hz, newVar, newRow, newObj, Sem.run]
    · exact RunS.fail
  · exact RunS.fail
def evBox (t : TypeId) (v : Value) : Comp Value := evNew (.leaf v.cells.toList) t fun i => .pointer (some ⟨i, 0, none⟩)
theorem evBox_ok [Env] {t : TypeId} {v v' : Value} (hv : VR β v v') : RunS P N β (evBox t v) (Instr.box t v') :=
  evNew_ok (vs := v'.cells.toList) (k' := fun b => .pointer (some ⟨b, 0, none⟩)) trivial hv.cells (fun w => by simp [Instr.box, newVar, newRow, newObj, Sem.run]) (fun β' i I hi hb _ _ => VR.ptr0 hi hb)
/-! ### Places -/
def evField (P : Program) (t : TypeId) (f : Nat) : Value → Comp Value
  | .pointer (some ⟨i, o, none⟩) => match P.underlying t with
    | some (.struct fs) => match fs[f]? with
      | some fd => match szOf P fd.type with
        | some (n + 1) => ret (.pointer (some ⟨i, o + fd.offset, none⟩))
        | _ => fail
      | none => fail
    | _ => fail
  | _ => fail
theorem evField_ok [Env] {t : TypeId} {f : Nat} {p p' : Value} (hp : VR β p p') : RunS P N β (evField P t f p) (Instr.fieldAt t p' f) := by
  cases hp with
  | @ptr i I o hβ =>
    simp only [evField]
    split
    · rename_i fs hu
      split
      · rename_i fd hfd
        split
        · rename_i n hn
          refine RunS.pure (v' := .pointer (some ⟨I.blk, I.base + o + fd.offset, none⟩)) ?_ (fun w => ?_)
          · rw [Nat.add_assoc]; exact .ptr _ hβ
          · have hsz := run_sizeOf (P := P) hn
            simp [Instr.fieldAt, Sem.run_bind, run_underlying hu, hfd, Instr.sureAddr, fieldPlace, hsz, Addr.add_mid]
        · exact RunS.fail
      · exact RunS.fail
    · exact RunS.fail
  | _ => exact RunS.fail
end Go.Proofs.Ytdpmjghdmpaehaa.ev
