/-
  One operation, whichever. Conditions: none.
-/
import Derived.Test.YtdpmjghdmpaehaaEvHu
namespace Go.Proofs.Ytdpmjghdmpaehaa.ev
set_option linter.unusedVariables false
set_option linter.unusedSimpArgs false
variable {P : Program} {N : Nat} {β : Mp}
def takeOpt (present : Bool) : List Value → Option (Option Value × List Value)
  | [] => match present with
    | true => none
    | false => some (none, [])
  | v :: r => match present with
    | true => some (some v, r)
    | false => some (none, v :: r)
/-- The bounds of a slice expression among the operands. -/
def bounds (l h m : Bool) (xs : List Value) : Option (Option Value × Option Value × Option Value) :=
  match takeOpt l xs with
  | some (a, xs) => match takeOpt h xs with
    | some (b, xs) => match takeOpt m xs with
      | some (c, _) => some (a, b, c)
      | none => none
    | none => none
  | none => none
theorem takeOpt_ok [Env] {p : Option Operand} {ρ : Operand → Value} {xs : List Value} {rest : List Operand} {a : Option Value} {r : List Value} (h : takeOpt p.isSome xs = some (a, r)) (hp : PW β xs ((p.toList ++ rest).map ρ)) : OptEq β a (p.map ρ) ∧ PW β r (rest.map ρ) := by
  cases p with
  | none =>
    cases xs <;> simp only [takeOpt, Option.isSome_none, Option.some.injEq, Prod.mk.injEq] at h <;> obtain ⟨rfl, rfl⟩ := h <;> exact ⟨.inl ⟨rfl, rfl⟩, by simpa using hp⟩
  | some x =>
    cases xs with
    | nil => simp [takeOpt] at h
    | cons v xs =>
      simp only [takeOpt, Option.isSome_some, Option.some.injEq, Prod.mk.injEq] at h
      obtain ⟨rfl, rfl⟩ := h
      simp only [Option.toList_some, List.cons_append, List.nil_append, List.map_cons] at hp
      exact ⟨.inr ⟨_, _, rfl, rfl, hp.tail.1⟩, hp.tail.2⟩
def hard (P : Program) (o : Oper) (xs : List Value) : Comp Value :=
  match o.op with
  | .move _ => match xs with
    | [v] => ret v
    | _ => fail
  | .assign _ => match xs with
    | [v] => ret v
    | _ => fail
  | .pick _ _ _ => match xs with
    | [.bool true, a, b] => ret a
    | [.bool false, a, b] => ret b
    | _ => fail
  | .nilCheck _ => match xs with
    | [.pointer (some a)] => ret (.pointer (some a))
    | [.func (.func k) f c] => ret (.func (.func k) f c)
    | _ => fail
  | .alloc t => evAlloc P t
  | .box t _ => match xs with
    | [v] => evBox t v
    | _ => fail
  | .load t _ => match xs with
    | [p] => evLoad P t p
    | _ => fail
  | .store t _ _ => match xs with
    | [p, v] => evStore P t p v
    | _ => fail
  | .fieldAddr t _ f => match xs with
    | [p] => evField P t f p
    | _ => fail
  | .field t _ f => match xs with
    | [x] => ofOpt (fieldOf P t f x)
    | _ => fail
  | .indexAddr t _ _ => match xs with
    | [x, i] => ofOpt (ixAny P t x i)
    | _ => fail
  | .index t _ _ => match xs with
    | [x, i] => ofOpt (indexOf P t i x)
    | _ => fail
  | .extract _ ix => match xs with
    | [x] => ofOpt (extractOf ix x)
    | _ => fail
  | .build t ps => ofOpt (buildOf P t ((ps.toList.map (·.1)).zip xs))
  | .buildSlice t n ps => buildSliceOf P t n ((ps.toList.map (·.1)).zip xs)
  | .makeSlice t _ _ => match xs with
    | [l, c] => evMake P t l c
    | _ => fail
  | .slice t _ lo hi mx => match xs with
    | x :: r => match bounds lo.isSome hi.isSome mx.isSome r with
      | some (a, b, c) => evSliceA P t a b c x
      | none => fail
    | _ => fail
  | .makeInterface t _ => match xs with
    | [v] => match P.underlying t with
      | some (.interface _) => fail
      | some _ => ret (.iface t v)
      | none => fail
    | _ => fail
  | .makeFunc fn first captured => ret (.func fn (xs.take first.size).toArray (xs.drop first.size).toArray)
  | .binOp op t _ _ _ => match xs with
    | [x, y] => evEqM P op t x y
    | _ => fail
  | .call c => match c.callee, c.argTypes.toList, xs with
    | .builtin .len, [t], [x] => evLenA P t x
    | .builtin .append, [t, tx], [s, x] => evAppA P t tx s x
    | .builtin .delete, [t, _], [m, k] => evDelete P t m k
    | .builtin .copy, [t, _], [d, x] => evCopyA P t d x
    | .builtin .clear, [t], [x] => evClear P t x
    | .builtin .unsafeSliceData, [_], [x] => evSd x
    | .builtin .unsafeString, [pt, _], [p, n] => evUs P pt p n
    | .value _, _, .func (.func k) f cs :: args => match f.toList ++ cs.toList with
      | [] => match atOf P k with
        | some a => evAt a args
        | none => fail
      | _ => fail
    | _, _, _ => fail
  | .makeMap t _ => evMakeMap P t xs
  | .range t _ => match xs with
    | [x] => evRange P t x
    | _ => fail
  | .next _ str => match xs with
    | [x] => evNext x str
    | _ => fail
  | .entry _ => match xs with
    | [x] => evEntry x
    | _ => fail
  | .mapEntry t _ _ => match xs with
    | [m, k] => evMapEntry P t m k
    | _ => fail
  | .entryStore _ _ _ _ => match xs with
    | [m, s, v] => evEntStore m s v
    | _ => fail
  | .convert s d _ => match xs with
    | [x] => evConvU P s d x
    | _ => fail
  | .lookup t _ _ ok => match xs with
    | [m, k] => evLookup P t m k ok
    | _ => fail
  | .mapUpdate t _ _ _ => match xs with
    | [m, k, v] => evUpdate P t m k v
    | _ => fail
  | .insert t _ _ _ => match xs with
    | [m, k, v] => evUpdate P t m k v
    | _ => fail
  | _ => fail
def RunO [Env] (P : Program) (N : Nat) (β : Mp) (m : Comp Value) (s : Sem Next) : Prop := ∀ c h o w, m c h = some o → Sim P N β h w → N ≤ w.heap.size → (∀ i, c ≤ i → i < o.c → β i = none) →
  ∃ v' w' β', (s.run P w = .ok (.value v') w' ∨ (s.run P w = .ok .skip w' ∧ v' = undef)) ∧ Ext c o.c β β' ∧ Sim P N β' o.h w' ∧ VR β' o.a v' ∧ Keep N w w'
theorem RunO.fail [Env] {s : Sem Next} : RunO P N β fail s := fun c h o w he => by cases he
theorem RunS.val [Env] {m : Comp Value} {s : Sem Value} (h : RunS P N β m s) : RunO P N β m (do Pure.pure (Next.value (← s))) := fun c h' o w he hs hN hf => by
  obtain ⟨v', w', β', h1, h2⟩ := h c h' o w he hs hN hf
  exact ⟨v', w', β', .inl (by simp only [Sem.run_bind, h1, Result.andThen_ok, Sem.run_pure]), h2⟩
theorem RunS.skip [Env] {m : Comp Value} {s : Sem Unit} (h : RunS P N β m (do s; Pure.pure undef)) : RunO P N β m (do s; Pure.pure Next.skip) := fun c h' o w he hs hN hf => by
  obtain ⟨v', w', β', h1, h2⟩ := h c h' o w he hs hN hf
  refine ⟨v', w', β', .inr ?_, h2⟩
  simp only [Sem.run_bind] at h1 ⊢
  cases hr : s.run P w with
  | ok a w1 =>
    rw [hr] at h1
    simp only [Result.andThen_ok, Sem.run_pure, Result.ok.injEq] at h1 ⊢
    exact ⟨⟨trivial, h1.2⟩, h1.1.symm⟩
  | halt x w1 => rw [hr] at h1; simp [Result.andThen] at h1
theorem RunO.of_val [Env] {v v' : Value} (hv : VR β v v') {s : Sem Next} (hr : ∀ w, s.run P w = .ok (.value v') w) : RunO P N β (ret v) s := fun c h o w he hs hN hf => by
  simp only [ret, Option.some.injEq] at he; subst he
  exact ⟨v', w, β, .inl (hr w), Ext.refl _ _ _, hs, hv, Keep.refl _ _⟩
theorem PW.one [Env] {v : Value} {l : List Value} (h : PW β [v] l) : ∃ v', l = [v'] ∧ VR β v v' := by
  obtain ⟨v', r, rfl, h1, h2⟩ := h.cons_left
  rw [h2.nil_left]
  exact ⟨v', rfl, h1⟩
theorem PW.two [Env] {v u : Value} {l : List Value} (h : PW β [v, u] l) : ∃ v' u', l = [v', u'] ∧ VR β v v' ∧ VR β u u' := by
  obtain ⟨v', r, rfl, h1, h2⟩ := h.cons_left
  obtain ⟨u', rfl, h3⟩ := h2.one
  exact ⟨v', u', rfl, h1, h3⟩
theorem PW.three [Env] {v u t : Value} {l : List Value} (h : PW β [v, u, t] l) : ∃ v' u' t', l = [v', u', t'] ∧ VR β v v' ∧ VR β u u' ∧ VR β t t' := by
  obtain ⟨v', r, rfl, h1, h2⟩ := h.cons_left
  obtain ⟨u', t', rfl, h3, h4⟩ := h2.two
  exact ⟨v', u', t', rfl, h1, h3, h4⟩
theorem zip_parts [Env] {ps : Array (Nat × Operand)} {ρ : Operand → Value} {xs : List Value} (h : PW β xs ((ps.toList.map (·.2)).map ρ)) :
    ((ps.toList.map (·.1)).zip xs).map (·.1) = (ps.map fun (i, x) => (i, ρ x)).toList.map (·.1) ∧ PW β (((ps.toList.map (·.1)).zip xs).map (·.2)) ((ps.map fun (i, x) => (i, ρ x)).toList.map (·.2)) := by
  have hl := h.1
  simp only [List.length_map] at hl
  constructor
  · rw [List.map_fst_zip (by simp [hl])]
    simp
  · rw [List.map_snd_zip (by simp [hl])]
    have e : (ps.map fun (i, x) => (i, ρ x)).toList.map (·.2) = (ps.toList.map (·.2)).map ρ := by simp
    rw [e]; exact h
set_option maxHeartbeats 1000000 in
theorem hard_ok [Env] {o : Oper} {ρ : Operand → Value} {xs : List Value} (hx : PW β xs (o.op.operands.toList.map ρ)) : RunO P N β (hard P o xs) (execOp ρ o) := by
  unfold hard
  split
  · rename_i x ho
    simp only [ho, Op.operands] at hx
    split
    · obtain ⟨v', e, h1⟩ := hx.one
      simp at e; subst e
      exact RunO.of_val h1 (fun w => by simp [execOp, ho])
    · exact RunO.fail
  · rename_i x ho
    simp only [ho, Op.operands] at hx
    split
    · obtain ⟨v', e, h1⟩ := hx.one
      simp at e; subst e
      exact RunO.of_val h1 (fun w => by simp [execOp, ho])
    · exact RunO.fail
  · rename_i x y z ho
    simp only [ho, Op.operands] at hx
    split
    · obtain ⟨v', u', t', e, h1, h2, h3⟩ := hx.three
      simp at e; obtain ⟨e1, e2, e3⟩ := e
      rw [← e2] at h2
      have := h1.bool_eq
      exact RunO.of_val h2 (fun w => by simp [execOp, ho, e1, this, asBool])
    · obtain ⟨v', u', t', e, h1, h2, h3⟩ := hx.three
      simp at e; obtain ⟨e1, e2, e3⟩ := e
      rw [← e3] at h3
      have := h1.bool_eq
      exact RunO.of_val h3 (fun w => by simp [execOp, ho, e1, this, asBool])
    · exact RunO.fail
  · rename_i x ho
    simp only [ho, Op.operands] at hx
    split
    · obtain ⟨v', e, h1⟩ := hx.one
      simp at e
      cases h1 with
      | ptr o' hb => exact RunO.of_val (.ptr o' hb) (fun w => by simp [execOp, ho, e])
    · obtain ⟨v', e, h1⟩ := hx.one
      simp at e
      cases h1 with
      | func fn h2 h3 h4 h5 => exact RunO.of_val (.func _ h2 h3 h4 h5) (fun w => by simp [execOp, ho, e])
    · exact RunO.fail
  · rename_i t ho
    have := (evAlloc_ok (P := P) (N := N) (β := β) (t := t)).val
    simpa only [execOp, ho] using this
  · rename_i t x ho
    simp only [ho, Op.operands] at hx
    split
    · obtain ⟨v', e, h1⟩ := hx.one
      simp at e; subst e
      simpa only [execOp, ho] using (evBox_ok (P := P) (N := N) (t := t) h1).val
    · exact RunO.fail
  · rename_i t x ho
    simp only [ho, Op.operands] at hx
    split
    · obtain ⟨v', e, h1⟩ := hx.one
      simp at e; subst e
      simpa only [execOp, ho] using (evLoad_ok (P := P) (N := N) (t := t) h1).val
    · exact RunO.fail
  · rename_i t x y ho
    simp only [ho, Op.operands] at hx
    split
    · obtain ⟨v', u', e, h1, h2⟩ := hx.two
      simp at e; obtain ⟨rfl, rfl⟩ := e
      simpa only [execOp, ho] using (evStore_ok (P := P) (N := N) (t := t) h1 h2).skip
    · exact RunO.fail
  · rename_i t x f ho
    simp only [ho, Op.operands] at hx
    split
    · obtain ⟨v', e, h1⟩ := hx.one
      simp at e; subst e
      simpa only [execOp, ho] using (evField_ok (P := P) (N := N) (t := t) (f := f) h1).val
    · exact RunO.fail
  · rename_i t x f ho
    simp only [ho, Op.operands] at hx
    split
    · obtain ⟨v', e, h1⟩ := hx.one
      simp at e; subst e
      simpa only [execOp, ho] using (fieldOf_ok (P := P) (N := N) (t := t) (f := f) h1).val
    · exact RunO.fail
  · rename_i t x y ho
    simp only [ho, Op.operands] at hx
    split
    · obtain ⟨v', u', e, h1, h2⟩ := hx.two
      simp at e; obtain ⟨rfl, rfl⟩ := e
      simpa only [execOp, ho] using (ixAny_ok (P := P) (N := N) (t := t) h1 h2).val
    · exact RunO.fail
  · rename_i t x y ho
    simp only [ho, Op.operands] at hx
    split
    · obtain ⟨v', u', e, h1, h2⟩ := hx.two
      simp at e; obtain ⟨rfl, rfl⟩ := e
      simpa only [execOp, ho] using (indexOf_ok (P := P) (N := N) (t := t) h1 h2).val
    · exact RunO.fail
  · rename_i x ix ho
    simp only [ho, Op.operands] at hx
    split
    · obtain ⟨v', e, h1⟩ := hx.one
      simp at e; subst e
      simpa only [execOp, ho] using (extractOf_ok (P := P) (N := N) (ix := ix) h1).val
    · exact RunO.fail
  · rename_i t ps ho
    simp only [ho, Op.operands] at hx
    have hz := zip_parts (β := β) (ps := ps) (ρ := ρ) hx
    have := (buildOf_ok (P := P) (N := N) (β := β) (t := t) (parts := ((ps.toList.map (·.1)).zip xs).toArray) (parts' := ps.map fun (i, x) => (i, ρ x)) (by simpa using hz.1) (by simpa using hz.2)).val
    simpa only [execOp, ho] using this
  · rename_i t n ps ho
    simp only [ho, Op.operands] at hx
    have hz := zip_parts (β := β) (ps := ps) (ρ := ρ) hx
    have := (buildSliceOf_ok (P := P) (N := N) (β := β) (t := t) (len := n) (parts := ((ps.toList.map (·.1)).zip xs).toArray) (parts' := ps.map fun (i, x) => (i, ρ x)) (by simpa using hz.1) (by simpa using hz.2)).val
    simpa only [execOp, ho] using this
  · rename_i t x y ho
    simp only [ho, Op.operands] at hx
    split
    · obtain ⟨v', u', e, h1, h2⟩ := hx.two
      simp at e; obtain ⟨rfl, rfl⟩ := e
      simpa only [execOp, ho] using (evMake_ok (P := P) (N := N) (t := t) h1 h2).val
    · exact RunO.fail
  · rename_i t x lo hi mx ho
    simp only [ho, Op.operands] at hx
    split
    · rename_i v r
      split
      · rename_i a b c hb
        have e : (#[x] ++ lo.toArray ++ hi.toArray ++ mx.toArray).toList = x :: (lo.toList ++ (hi.toList ++ (mx.toList ++ []))) := by
          cases lo <;> cases hi <;> cases mx <;> rfl
        rw [e] at hx
        obtain ⟨h1, h2⟩ := hx.tail
        unfold bounds at hb
        split at hb
        · rename_i a' xs1 hb1
          split at hb
          · rename_i b' xs2 hb2
            split at hb
            · rename_i c' xs3 hb3
              simp only [Option.some.injEq, Prod.mk.injEq] at hb
              obtain ⟨rfl, rfl, rfl⟩ := hb
              obtain ⟨k1, k2⟩ := takeOpt_ok hb1 h2
              obtain ⟨k3, k4⟩ := takeOpt_ok hb2 k2
              obtain ⟨k5, k6⟩ := takeOpt_ok hb3 k4
              simpa only [execOp, ho] using (evSliceA_ok (P := P) (N := N) (t := t) h1 k1 k3 k5).val
            · cases hb
          · cases hb
        · cases hb
      · exact RunO.fail
    · exact RunO.fail
  · rename_i t x ho
    simp only [ho, Op.operands] at hx
    split
    · obtain ⟨v', e, h1⟩ := hx.one
      simp at e; subst e
      split
      · exact RunO.fail
      · rename_i d hd hne
        refine RunO.of_val (.iface t h1) (fun w => ?_)
        simp only [execOp, ho, Instr.makeInterface, Sem.run_bind, run_underlying hne, Result.andThen_ok]
        cases d <;> first
          | rfl
          | exact absurd rfl (hd _)
      · exact RunO.fail
    · exact RunO.fail
  · rename_i fn first captured ho
    simp only [ho, Op.operands] at hx
    rw [Array.toList_append, List.map_append] at hx
    have h1 := hx.take first.size
    have h2 := hx.drop first.size
    have e1 : (List.map ρ first.toList ++ List.map ρ captured.toList).take first.size = (first.map ρ).toList := by
      rw [List.take_left' (by simp)]; simp
    have e2 : (List.map ρ first.toList ++ List.map ρ captured.toList).drop first.size = (captured.map ρ).toList := by
      rw [List.drop_left' (by simp)]; simp
    rw [e1] at h1
    rw [e2] at h2
    have k1 := PW.arr (β := β) (c := (xs.take first.size).toArray) (c' := first.map ρ) h1
    have k2 := PW.arr (β := β) (c := (xs.drop first.size).toArray) (c' := captured.map ρ) h2
    exact RunO.of_val (.func fn k1.1 k1.2 k2.1 k2.2) (fun w => by simp [execOp, ho, Instr.makeFunc])
  · rename_i op t x y yt ho
    simp only [ho, Op.operands] at hx
    split
    · obtain ⟨v', u', e, h1, h2⟩ := hx.two
      simp at e; obtain ⟨rfl, rfl⟩ := e
      simpa only [execOp, ho] using (evEqM_ok (P := P) (N := N) (op := op) (t := t) (a1 := x) (a2 := y) h1 h2).val
    · exact RunO.fail
  · rename_i cl ho
    simp only [ho, Op.operands, Call.operands] at hx
    split
    · rename_i t1 x1 hc hty
      simp only [hc] at hx
      obtain ⟨v', e, h1⟩ := hx.one
      have e1 : cl.args.map ρ = #[v'] := by
        apply Array.ext'
        simpa using e
      have e2 : cl.argTypes = #[t1] := by apply Array.ext'; simpa using hty
      have := (evLenA_ok (P := P) (N := N) (t := t1) (ty := o.type) h1).val
      simp only [execOp, ho, resolve, hc, e1, e2]
      simpa [invoke, builtin] using this
    · rename_i t1 tx1 s1 x1 hc hty
      simp only [hc] at hx
      obtain ⟨v', u', e, h1, h2⟩ := hx.two
      have e1 : cl.args.map ρ = #[v', u'] := by
        apply Array.ext'
        simpa using e
      have e2 : cl.argTypes = #[t1, tx1] := by apply Array.ext'; simpa using hty
      have := (evAppA_ok (P := P) (N := N) (t := t1) (tx := tx1) (ty := o.type) h1 h2).val
      simp only [execOp, ho, resolve, hc, e1, e2]
      simpa [invoke, builtin] using this
    · rename_i t1 tx1 s1 x1 hc hty
      simp only [hc] at hx
      obtain ⟨v', u', e, h1, h2⟩ := hx.two
      have e1 : cl.args.map ρ = #[v', u'] := by
        apply Array.ext'
        simpa using e
      have e2 : cl.argTypes = #[t1, tx1] := by apply Array.ext'; simpa using hty
      have := (evDelete_ok (P := P) (N := N) (t := t1) (ty := o.type) h1 h2).val
      simp only [execOp, ho, resolve, hc, e1, e2]
      have hd : Builtin.delete_ #[t1, tx1] o.type #[v', u'] = Builtin.delete_ #[t1] o.type #[v', u'] := rfl
      simpa [invoke, builtin, hd] using this
    · rename_i t1 tx1 s1 x1 hc hty
      simp only [hc] at hx
      obtain ⟨v', u', e, h1, h2⟩ := hx.two
      have e1 : cl.args.map ρ = #[v', u'] := by
        apply Array.ext'
        simpa using e
      have e2 : cl.argTypes = #[t1, tx1] := by apply Array.ext'; simpa using hty
      have := (evCopyA_ok (P := P) (N := N) (t := t1) (t2 := tx1) (ty := o.type) h1 h2).val
      simp only [execOp, ho, resolve, hc, e1, e2]
      simpa [invoke, builtin] using this
    · rename_i t1 x1 hc hty
      simp only [hc] at hx
      obtain ⟨v', e, h1⟩ := hx.one
      have e1 : cl.args.map ρ = #[v'] := by
        apply Array.ext'
        simpa using e
      have e2 : cl.argTypes = #[t1] := by apply Array.ext'; simpa using hty
      have := (evClear_ok (P := P) (N := N) (t := t1) (ty := o.type) h1).val
      simp only [execOp, ho, resolve, hc, e1, e2]
      simpa [invoke, builtin] using this
    · rename_i t1 x1 hc hty
      simp only [hc] at hx
      obtain ⟨v', e, h1⟩ := hx.one
      have e1 : cl.args.map ρ = #[v'] := by
        apply Array.ext'
        simpa using e
      have := (evSd_ok (P := P) (N := N) (ts := cl.argTypes) (ty := o.type) h1).val
      simp only [execOp, ho, resolve, hc, e1]
      simpa [invoke, builtin] using this
    · rename_i t1 tx1 s1 x1 hc hty
      simp only [hc] at hx
      obtain ⟨v', u', e, h1, h2⟩ := hx.two
      have e1 : cl.args.map ρ = #[v', u'] := by
        apply Array.ext'
        simpa using e
      have e2 : cl.argTypes = #[t1, tx1] := by apply Array.ext'; simpa using hty
      have := (evUs_ok (P := P) (N := N) (pt := t1) (it := tx1) (ty := o.type) h1 h2).val
      simp only [execOp, ho, resolve, hc, e1, e2]
      simpa [invoke, builtin] using this
    · rename_i fv k f cs args hc
      split
      · rename_i hfc
        split
        · rename_i a ha
          simp only [hc] at hx
          obtain ⟨v', r', e, h1, h2⟩ := hx.cons_left
          have e1 : ρ fv = v' ∧ (cl.args.map ρ).toList = r' := by simpa using e
          obtain ⟨hf0, hc0⟩ := List.append_eq_nil_iff.1 hfc
          have hv' : v' = .func (.func k) #[] #[] := by
            cases h1 with
            | func fn g1 g2 g3 g4 =>
              rename_i f' c'
              have k1 : f'.size = 0 := by rw [← g1]; simpa using congrArg List.length hf0
              have k2 : c'.size = 0 := by rw [← g3]; simpa using congrArg List.length hc0
              rw [Array.eq_empty_of_size_eq_zero k1, Array.eq_empty_of_size_eq_zero k2]
          have e2 : cl.args.map ρ = r'.toArray := by
            apply Array.ext'
            rw [e1.2]
          have key : ∀ (fn : Func) (e : Array Value → Sem Value), P.funcs[k]? = some fn → (fn.name == "runtime.NumGoroutine") = false → fn.body.isNone = true → Extern.findNext fn = none → Extern.find fn = some e →
              e = atFn a → RunO P N β (evAt a args) (execOp ρ o) := by
            intro fn e g1 g2 g3 g4 g5 g6 c h out w he hs hN hfr
            obtain ⟨v, w', β', hrun, q1, q2, q3, q4⟩ := evAt_ok (P := P) (N := N) h2 g6 c h out w he hs hN hfr
            refine ⟨v, w', β', .inl ?_, q1, q2, q3, q4⟩
            have := run_standIn (P := P) g1 g2 g3 g4 g5 hrun
            simp only [execOp, ho, resolve, hc, e1.1, hv', e2]
            simpa [Deferred.ofValue, invoke] using this
          unfold atOf at ha
          split at ha
          · rename_i fn hfn
            split at ha
            · rename_i hb
              simp only [Bool.and_eq_true, Bool.not_eq_true'] at hb
              obtain ⟨b1, b2, b3⟩ := hb
              have b3 := Option.isNone_iff_eq_none.1 b3
              split at ha
              · rename_i hn
                cases ha
                exact key fn _ hfn b2 b1 b3 (find_add (beq_iff_eq.1 hn)) rfl
              · split at ha
                · rename_i hn
                  cases ha
                  exact key fn _ hfn b2 b1 b3 (find_load (beq_iff_eq.1 hn)) rfl
                · split at ha
                  · rename_i hn
                    cases ha
                    exact key fn _ hfn b2 b1 b3 (find_cas (beq_iff_eq.1 hn)) rfl
                  · split at ha
                    · rename_i hn
                      cases ha
                      exact key fn _ hfn b2 b1 b3 (find_esc (beq_iff_eq.1 hn)) rfl
                    · cases ha
            · cases ha
          · cases ha
        · exact RunO.fail
      · exact RunO.fail
    · exact RunO.fail
  · rename_i t r ho
    simp only [ho, Op.operands] at hx
    have hx' : PW β xs (r.map ρ).toList := by cases r <;> simpa using hx
    simpa only [execOp, ho] using (evMakeMap_ok (P := P) (N := N) (t := t) hx').val
  · rename_i t x ho
    simp only [ho, Op.operands] at hx
    split
    · obtain ⟨v', e, h1⟩ := hx.one
      simp at e; subst e
      simpa only [execOp, ho] using (evRange_ok (P := P) (N := N) (t := t) h1).val
    · exact RunO.fail
  · rename_i x str ho
    simp only [ho, Op.operands] at hx
    split
    · obtain ⟨v', e, h1⟩ := hx.one
      simp at e; subst e
      simpa only [execOp, ho] using (evNext_ok (P := P) (N := N) (ty := o.type) (str := str) h1).val
    · exact RunO.fail
  · rename_i x ho
    simp only [ho, Op.operands] at hx
    split
    · obtain ⟨v', e, h1⟩ := hx.one
      simp at e; subst e
      simpa only [execOp, ho] using (evEntry_ok (P := P) (N := N) h1).val
    · exact RunO.fail
  · rename_i t m k ho
    simp only [ho, Op.operands] at hx
    split
    · obtain ⟨v', u', e, h1, h2⟩ := hx.two
      simp at e; obtain ⟨rfl, rfl⟩ := e
      simpa only [execOp, ho] using (evMapEntry_ok (P := P) (N := N) (t := t) h1 h2).val
    · exact RunO.fail
  · rename_i t m s v ho
    simp only [ho, Op.operands] at hx
    split
    · obtain ⟨v', u', t', e, h1, h2, h3⟩ := hx.three
      simp at e; obtain ⟨rfl, rfl, rfl⟩ := e
      simpa only [execOp, ho] using (evEntStore_ok (P := P) (N := N) (t := t) h1 h2 h3).skip
    · exact RunO.fail
  · rename_i s d x ho
    simp only [ho, Op.operands] at hx
    split
    · obtain ⟨v', e, h1⟩ := hx.one
      simp at e; subst e
      simpa only [execOp, ho] using (evConvU_ok (P := P) (N := N) (s := s) (d := d) h1).val
    · exact RunO.fail
  · rename_i t m k ok ho
    simp only [ho, Op.operands] at hx
    split
    · obtain ⟨v', u', e, h1, h2⟩ := hx.two
      simp at e; obtain ⟨rfl, rfl⟩ := e
      simpa only [execOp, ho] using (evLookup_ok (P := P) (N := N) (t := t) (ok := ok) h1 h2).val
    · exact RunO.fail
  · rename_i t m k v ho
    simp only [ho, Op.operands] at hx
    split
    · obtain ⟨v', u', t', e, h1, h2, h3⟩ := hx.three
      simp at e; obtain ⟨rfl, rfl, rfl⟩ := e
      simpa only [execOp, ho] using (evUpdate_ok (P := P) (N := N) (t := t) h1 h2 h3).skip
    · exact RunO.fail
  · rename_i t m k v ho
    simp only [ho, Op.operands] at hx
    split
    · obtain ⟨v', u', t', e, h1, h2, h3⟩ := hx.three
      simp at e; obtain ⟨rfl, rfl, rfl⟩ := e
      simpa only [execOp, ho] using (evUpdate_ok (P := P) (N := N) (t := t) h1 h2 h3).skip
    · exact RunO.fail
  · exact RunO.fail
end Go.Proofs.Ytdpmjghdmpaehaa.ev
