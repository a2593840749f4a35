/-
  One step of a region: an operation or a call, if its guard wants it. Conditions: none.
-/
import Derived.Test.YtdpmjghdmpaehaaEvI
import Derived.Orders
namespace Go.Proofs.Ytdpmjghdmpaehaa.ev
set_option linter.unusedVariables false
set_option linter.unusedSimpArgs false
variable {P : Program} {N : Nat} {β : Mp}
/-- What calls come to, and what operations on what is not looked into come to. -/
structure CallF where
  call : FuncId → List Value → Comp Value
  tab : Oper → List Value → Option Value
instance : CoeFun CallF (fun _ => FuncId → List Value → Comp Value) := ⟨CallF.call⟩
/-- Calls that wait for the end. -/
inductive DL [Env] (β : Mp) : List Deferred → List Deferred → Prop
  | nil : DL β [] []
  | cons {k : FuncId} {cap cap' args args' : Array Value} {l l' : List Deferred} : PW β cap.toList cap'.toList → PW β args.toList args'.toList → DL β l l' → DL β (⟨.fn (.func k) cap, args⟩ :: l) (⟨.fn (.func k) cap', args'⟩ :: l')
theorem DL.mono [Env] {β' : Mp} (he : ∀ i I, β i = some I → β' i = some I) {l l' : List Deferred} (h : DL β l l') : DL β' l l' := by
  induction h with
  | nil => exact .nil
  | cons h1 h2 _ ih => exact .cons (h1.mono he) (h2.mono he) ih
theorem DL.none_left [Env] {l' : List Deferred} (h : DL β [] l') : l' = [] := by cases h; rfl
structure AR [Env] (β : Mp) (a ar : Act) : Prop where
  t : PW β a.tmps.toList ar.tmps.toList
  d : DL β a.defers ar.defers
theorem AR.mono [Env] {β' : Mp} (he : ∀ i I, β i = some I → β' i = some I) {a ar : Act} (h : AR β a ar) : AR β' a ar := ⟨h.t.mono he, h.d.mono he⟩
theorem AR.put [Env] {a ar : Act} (h : AR β a ar) (d : Option Tmp) {v v' : Value} (hv : VR β v v') : AR β (a.put d v) (ar.put d v') := by
  cases d with
  | none => exact h
  | some d => exact ⟨h.t.setIf hv d, h.d⟩
theorem AR.slot [Env] {a ar : Act} (h : AR β a ar) (t : Nat) : VR β (a.tmps.getD t undef) (ar.tmps.getD t undef) := by
  have hl := h.t.1
  simp only [Array.length_toList] at hl
  by_cases ht : t < a.tmps.size
  · have ht' : t < ar.tmps.size := by omega
    have := h.t.2 t a.tmps[t] ar.tmps[t] (by simp [ht]) (by simp [ht'])
    simpa [Array.getD, ht, ht'] using this
  · have ht' : ¬ t < ar.tmps.size := by omega
    simpa [Array.getD, ht, ht'] using VR.undef
def opOk : Operand → Bool
  | .tmp _ => true
  | .const v => flat v
  | .func _ => true
  | .global _ => false
theorem AR.eval [Env] {a ar : Act} (h : AR β a ar) {x : Operand} (hx : opOk x = true) : VR β (a.eval x) (ar.eval x) := by
  cases x with
  | tmp t => exact h.slot t
  | const v => exact VR.of_flat 6 v hx
  | func f => exact VR.of_flat 6 _ rfl
  | global g => cases hx
theorem AR.evals [Env] {a ar : Act} (h : AR β a ar) : ∀ (l : List Operand), l.all opOk = true → PW β (l.map a.eval) (l.map ar.eval)
  | [], _ => PW.nil β
  | x :: r, hl => by
    simp only [List.all_cons, Bool.and_eq_true] at hl
    exact PW.cons (h.eval hl.1) (AR.evals h r hl.2)
theorem getQ (x y : Array Value) (hsz : x.size = y.size) (t : Nat) : (x[t]? = none ∧ y[t]? = none) ∨ (x[t]? = some (x.getD t undef) ∧ y[t]? = some (y.getD t undef)) := by
  by_cases ht : t < x.size
  · have ht' : t < y.size := by omega
    right
    simp [Array.getD, ht, ht']
  · left
    exact ⟨Array.getElem?_eq_none (by omega), Array.getElem?_eq_none (by omega)⟩
theorem AR.yielded [Env] {a ar : Act} (h : AR β a ar) (ops : Array Oper) : yielded ops ar.tmps = yielded ops a.tmps := by
  funext j
  unfold Go.yielded
  cases hd : (ops[j]?).bind (·.dst) with
  | none => rfl
  | some t =>
    simp only [Option.bind_some]
    have hl := h.t.1
    simp only [Array.length_toList] at hl
    have hv := h.slot t
    rcases getQ _ _ hl t with ⟨e1, e2⟩ | ⟨e1, e2⟩
    · rw [e1, e2]
    · rw [e1, e2]
      generalize a.tmps.getD t undef = x at hv ⊢
      generalize ar.tmps.getD t undef = y at hv ⊢
      cases hv with
      | opq j h1 h2 => cases he : Env.E j <;> first | rfl | exact absurd he (h2 _)
      | _ => rfl
/-- Has a function no body of its own? -/
def noBody (P : Program) (k : FuncId) : Bool :=
  match P.funcs[k]? with
  | some fn => fn.body.isNone
  | none => false
/-- A method of a pointer type, by its name, and its receiver: the pointer, or the place of a part of what it points to. -/
def methAt (P : Program) (t : TypeId) (name : String) (v : Value) : Option (FuncId × Value) :=
  match P.info? t with
  | some i => match i.methods.find? (·.name == name) with
    | some m => match m.path.toList, m.func with
      | [], some (f, true) => match P.underlying t with
        | some (.pointer _) => some (f, v)
        | _ => none
      | [s], some (f, true) => match s.deref, v with
        | true, .pointer (some ⟨b, o, none⟩) => match P.underlying s.struct with
          | some (.struct fs) => match fs[s.index]? with
            | some fd => match szOf P fd.type with
              | some (n + 1) => match P.underlying fd.type with
                | some (.struct _) => some (f, .pointer (some ⟨b, o + fd.offset, none⟩))
                | _ => none
              | _ => none
            | none => none
          | _ => none
        | _, _ => none
      | _, _ => none
    | none => none
  | none => none
theorem run_method [Env] {t : TypeId} {name : String} {f : FuncId} {v u v' : Value} (h : methAt P t name v = some (f, u)) (hv : VR β v v') (n : Nat) : ∃ u', VR β u u' ∧ ∀ w, (method (n + 1) t v' name).run P w = .ok (f, u') w := by
  unfold methAt at h
  split at h
  · rename_i i hi
    split at h
    · rename_i m hm
      split at h
      · rename_i f' hp hf
        split at h
        · rename_i e hu
          simp only [Option.some.injEq, Prod.mk.injEq] at h
          obtain ⟨rfl, rfl⟩ := h
          have hpe : m.path.isEmpty = true := by
            rw [Array.isEmpty_iff_size_eq_zero]
            have := congrArg List.length hp
            simpa using this
          refine ⟨v', hv, fun w => ?_⟩
          simp [method, typeInfo, Sem.run_bind, hi, hm, hp, hf, follow, receiverAt, run_underlying hu, Place.get]
        · cases h
      · rename_i s f' hp hf
        split at h
        · rename_i b o hd
          split at h
          · rename_i fs hu
            split at h
            · rename_i fd hfd
              split at h
              · rename_i k hn
                split at h
                · rename_i fs2 hu2
                  simp only [Option.some.injEq, Prod.mk.injEq] at h
                  obtain ⟨rfl, rfl⟩ := h
                  cases hv with
                  | @ptr _ I _ hβ =>
                    refine ⟨.pointer (some ⟨I.blk, I.base + (o + fd.offset), none⟩), .ptr _ hβ, fun w => ?_⟩
                    have hsz := run_sizeOf (P := P) hn
                    have hpe : m.path.isEmpty = false := by
                      cases hpe : m.path.isEmpty with
                      | false => rfl
                      | true =>
                        rw [Array.isEmpty_iff_size_eq_zero] at hpe
                        have := congrArg List.length hp
                        simp at this; omega
                    simp [method, typeInfo, Sem.run_bind, hi, hm, hp, hf, follow, receiverAt, run_underlying hu, run_underlying hu2, Place.get, hd, hfd, asAddr, fieldPlace, hsz, Addr.add_mid, Nat.add_assoc]
                · cases h
              · cases h
            · cases h
          · cases h
        · cases h
      · cases h
    · cases h
  · cases h
def callOf (P : Program) (o : Oper) (xs : List Value) : Option (FuncId × List Value) :=
  match o.op with
  | .call c => match c.callee with
    | .value _ => match xs with
      | .func (.func k) first captured :: args => match noBody P k with
        | true => none
        | false => some (k, first.toList ++ args ++ captured.toList)
      | _ => none
    | .invoke _ name => match xs with
      | .iface t v :: args => match methAt P t name v with
        | some (k, u) => match noBody P k with
          | true => none
          | false => some (k, u :: args)
        | none => none
      | _ => none
    | _ => none
  | _ => none
def notSel : Op → Bool
  | .select _ _ => false
  | .defer _ => false
  | _ => true
def flatOp (P : Program) (o : Oper) (ρ : Operand → Value) (xs : List Value) : Comp Value :=
  match quiet P (execOp ρ o) with
  | some (.value v) => gd (flat v) (ret v)
  | _ => hard P o xs
def evOper (P : Program) (call : CallF) (o : Oper) (a : Act) : Comp Value :=
  gd (o.op.operands.toList.all opOk && notSel o.op)
    (match callOf P o (o.op.operands.toList.map a.eval) with
     | some (k, args) => call k args
     | none => match call.tab o (o.op.operands.toList.map a.eval) with
       | some v => ret v
       | none => br ((o.op.operands.toList.map a.eval).all flat) (flatOp P o a.eval (o.op.operands.toList.map a.eval)) (hard P o (o.op.operands.toList.map a.eval)))
structure CallOK [Env] (P : Program) (N : Nat) (call : CallF) : Prop where
  loc : ∀ k args, Local (call k args)
  run : ∀ k args args' β c h o w, call k args c h = some o → PW β args args' → Sim P N β h w → N ≤ w.heap.size → (∀ i, c ≤ i → i < o.c → β i = none) →
    Calls P k args'.toArray w (fun e w' => ∃ v' β', e = .returned v' ∧ Ext c o.c β β' ∧ Sim P N β' o.h w' ∧ VR β' o.a v' ∧ Keep N w w')
  tab : ∀ β o xs v ρ, call.tab o xs = some v → PW β xs (o.op.operands.toList.map ρ) → ∃ v', VR β v v' ∧ ∀ w, (execOp ρ o).run P w = .ok (.value v') w
  fn : ∀ k args c h o, call k args c h = some o → ∃ fn, P.funcs[k]? = some fn ∧ (fn.name == "runtime.NumGoroutine") = false ∧ fn.body.isNone = false
theorem run_callFunc {k : FuncId} {args : Array Value} {fn : Func} (h1 : P.funcs[k]? = some fn) (h2 : (fn.name == "runtime.NumGoroutine") = false) (h3 : fn.body.isNone = false) (w : World) : (callFunc k args).run P w = .ok (.enter k args) w := by
  have e : (program).run P w = .ok P w := rfl
  unfold callFunc
  rw [Sem.run_bind, e]
  simp only [Result.andThen_ok, h1, h2, h3, Bool.false_eq_true, if_false, Sem.run_pure]
theorem evOper_ok [Env] {call : CallF} (hcall : CallOK P N call) {o : Oper} {a ar : Act} {c : Nat} {h : Tr} {out : Out Value} {w : World} (he : evOper P call o a c h = some out) (ha : AR β a ar) (hs : Sim P N β h w) (hN : N ≤ w.heap.size) (hf : ∀ i, c ≤ i → i < out.c → β i = none)
    {K : Act → World → Prop} {Q : Exit → Act → World → Prop}
    (hK : ∀ v' w' β', Ext c out.c β β' → Sim P N β' out.h w' → VR β' out.a v' → Keep N w w' → K (ar.put o.dst v') w') : o.wp P ar w K Q := by
  obtain ⟨hops, he⟩ := gd_some he
  simp only [Bool.and_eq_true] at hops
  obtain ⟨hops, hsel⟩ := hops
  have hx := ha.evals _ hops
  cases hc : callOf P o (o.op.operands.toList.map a.eval) with
  | some kargs =>
    obtain ⟨k, args⟩ := kargs
    rw [hc] at he
    simp only at he
    unfold callOf at hc
    split at hc
    · rename_i cl ho
      split at hc
      · rename_i f hcal
        have e0 : o.op.operands.toList = f :: cl.args.toList := by simp [ho, Op.operands, Call.operands, hcal]
        rw [e0] at hx hc
        split at hc
        · rename_i k' first captured rest hxs
          split at hc
          · cases hc
          simp only [Option.some.injEq, Prod.mk.injEq] at hc
          obtain ⟨rfl, rfl⟩ := hc
          rw [hxs] at hx
          simp only [List.map_cons] at hx
          obtain ⟨hv, hrest⟩ := hx.tail
          generalize hfv : ar.eval f = fv at hv
          cases hv with
          | @func _ _ first' _ captured' h1 h2 h3 h4 =>
            have hpw := ((PW.of_arr h1 h2).append hrest).append (PW.of_arr h3 h4)
            obtain ⟨fn, g1, g2, g3⟩ := hcall.fn _ _ _ _ _ he
            have hrun : (execOp ar.eval o).run P w = .ok (.enter k' ((first' ++ cl.args.map ar.eval) ++ captured')) w := by
              have := run_callFunc (P := P) (args := (first' ++ cl.args.map ar.eval) ++ captured') g1 g2 g3 w
              rw [Array.append_assoc] at this ⊢
              simp [execOp, ho, resolve, hcal, hfv, Deferred.ofValue, Sem.run_bind, invoke, this]
            have hcl := hcall.run _ _ _ _ _ _ _ _ he hpw hs hN hf
            unfold Oper.wp
            rw [hrun, Oper.upon_enter]
            have e1 : (first'.toList ++ List.map ar.eval cl.args.toList ++ captured'.toList).toArray = (first' ++ cl.args.map ar.eval) ++ captured' := by
              apply Array.ext'; simp
            rw [e1] at hcl
            refine hcl.mono ?_
            rintro e w' ⟨v', β', rfl, k1, k2, k3, k4⟩
            exact hK v' w' β' k1 k2 k3 k4
        · cases hc
      · rename_i f name hcal
        have e0 : o.op.operands.toList = f :: cl.args.toList := by simp [ho, Op.operands, Call.operands, hcal]
        rw [e0] at hx hc
        split at hc
        · rename_i t v rest hxs
          split at hc
          · rename_i k' u hmeth
            split at hc
            · cases hc
            simp only [Option.some.injEq, Prod.mk.injEq] at hc
            obtain ⟨rfl, rfl⟩ := hc
            rw [hxs] at hx
            simp only [List.map_cons] at hx
            obtain ⟨hv, hrest⟩ := hx.tail
            generalize hfv : ar.eval f = fv at hv
            cases hv with
            | @iface _ _ v0 hv =>
              obtain ⟨v', hu', h2⟩ := run_method (P := P) hmeth hv (P.types.size + Made.depth - 1)
              have hpw := PW.cons hu' hrest
              obtain ⟨fn, g1, g2, g3⟩ := hcall.fn _ _ _ _ _ he
              have hrun : (execOp ar.eval o).run P w = .ok (.enter k' (#[v'] ++ cl.args.map ar.eval)) w := by
                have h1 := run_callFunc (P := P) (args := #[v'] ++ cl.args.map ar.eval) g1 g2 g3 w
                have h2 := h2 w
                have h3 : P.types.size + Made.depth - 1 + 1 = P.types.size + Made.depth := by
                  have : 0 < Made.depth := by decide
                  omega
                rw [h3] at h2
                have e2 : (program).run P w = .ok P w := rfl
                have e3 : (cl.args.map ar.eval).extract 0 cl.args.size = cl.args.map ar.eval := by
                  apply Array.ext'
                  simp [List.take_of_length_le]
                have e4 : (#[Value.iface t v0] ++ Array.map ar.eval cl.args)[0]? = some (.iface t v0) := by
                  rw [Array.getElem?_append_left (by simp)]; rfl
                simp [execOp, ho, resolve, hcal, hfv, Sem.run_bind, invoke, callMethod, e4, e2, h2, e3, h1]
              have hcl := hcall.run _ _ _ _ _ _ _ _ he hpw hs hN hf
              unfold Oper.wp
              rw [hrun, Oper.upon_enter]
              have e1 : (v' :: List.map ar.eval cl.args.toList).toArray = #[v'] ++ cl.args.map ar.eval := by
                apply Array.ext'; simp
              rw [e1] at hcl
              refine hcl.mono ?_
              rintro e w' ⟨v', β', rfl, k1, k2, k3, k4⟩
              exact hK v' w' β' k1 k2 k3 k4
          · cases hc
        · cases hc
      · cases hc
    · cases hc
  | none =>
    rw [hc] at he
    simp only at he
    have key : ∀ {m : Comp Value}, RunO P N β m (execOp ar.eval o) → m c h = some out → o.wp P ar w K Q := fun {m} hm hme => by
      obtain ⟨v', w', β', h1, k1, k2, k3, k4⟩ := hm c h out w hme hs hN hf
      unfold Oper.wp
      rcases h1 with h1 | ⟨h1, rfl⟩
      · rw [h1, Oper.upon_value]; exact hK v' w' β' k1 k2 k3 k4
      · rw [h1, Oper.upon_skip]; exact hK _ w' β' k1 k2 k3 k4
    cases htab : call.tab o (o.op.operands.toList.map a.eval) with
    | some v =>
      rw [htab] at he
      obtain ⟨v', hv, hr⟩ := hcall.tab β o _ v ar.eval htab hx
      exact key (RunO.of_val hv hr) he
    | none =>
    rw [htab] at he
    simp only at he
    rcases br_some he with ⟨hfl, he⟩ | ⟨hfl, he⟩
    · unfold flatOp at he
      cases hq : quiet P (execOp a.eval o) with
      | none => rw [hq] at he; exact key (hard_ok hx) he
      | some nx =>
        rw [hq] at he
        cases nx with
        | value v => ?_
        | _ => exact key (hard_ok hx) he
        simp only at he
        obtain ⟨hv, he⟩ := gd_some he
        have heq : execOp a.eval o = execOp ar.eval o := by
          refine execOp_congr o (fun cs b e => by rw [e] at hsel; cases hsel) (fun x hxm => ?_)
          have hm : x ∈ o.op.operands.toList := by simpa using hxm
          have h1 : flat (a.eval x) = true := by
            rw [List.all_eq_true] at hfl
            exact hfl _ (List.mem_map.2 ⟨x, hm, rfl⟩)
          have h2 : opOk x = true := by
            rw [List.all_eq_true] at hops
            exact hops x hm
          exact (ha.eval h2).flat_eq 6 h1
        rw [heq] at hq
        exact key (RunO.of_val (VR.of_flat 6 v hv) (fun w => quiet_run _ _ hq w)) he
    · exact key (hard_ok hx) he
theorem evAlloc_loc {t : TypeId} : Local (evAlloc P t) := by
  unfold evAlloc evNew
  repeat' (first | exact Local.fail | exact Local.ret _ | exact Local.nw _ | refine Local.bind ?_ (fun _ => ?_) | split)
theorem hard_loc [Env] {o : Oper} {xs : List Value} : Local (hard P o xs) := by
  unfold hard evSliceA evLenA evAppA evAppS appTo evCopyA evCopyS srcS evAlloc evBox evNew evLoad evStore evField buildSliceOf evMake evSlice evLen evApp evMkApp evMkRow evAppMake evAppend srcCells evMakeMap evLookup evUpdate evDelete evCopy evClear evConvU evSd evUs evConv evRange evNext evEntry evEqM evMapEntry evEntStore evAt
  repeat' (first | exact Local.fail | exact Local.ret _ | exact Local.nw _ | exact Local.rd _ | exact Local.wr _ _ | exact Local.ofOpt _ | refine Local.bind ?_ (fun _ => ?_) | refine Local.gd ?_ | refine Local.br ?_ ?_ | split)
  all_goals (first | (unfold evNew; exact Local.bind (Local.nw _) (fun _ => Local.ret _)) | (unfold srcCells; repeat' (first | exact Local.fail | exact Local.ret _ | exact Local.rd _ | exact Local.ofOpt _ | refine Local.bind ?_ (fun _ => ?_) | split)))
theorem evOper_loc [Env] {call : CallF} (hcall : ∀ k args, Local (call k args)) {o : Oper} {a : Act} : Local (evOper P call o a) := by
  unfold evOper flatOp
  refine Local.gd ?_
  split
  · exact hcall _ _
  · split
    · exact Local.ret _
    refine Local.br ?_ hard_loc
    split
    · exact Local.gd (Local.ret _)
    · exact hard_loc
theorem evOper_congr {call : CallF} {o : Oper} {a b : Act} (h : ∀ x ∈ o.op.operands, a.eval x = b.eval x) : evOper P call o a = evOper P call o b := by
  have e : o.op.operands.toList.map a.eval = o.op.operands.toList.map b.eval := List.map_congr_left fun x hx => h x (by simpa using hx)
  unfold evOper flatOp
  rw [e]
  cases hs : notSel o.op with
  | false => simp only [Bool.and_false]; rfl
  | true =>
    have := execOp_congr o (ρ := a.eval) (ρ' := b.eval) (fun cs b e => by rw [e] at hs; cases hs) h
    rw [this]
/-- One step of a region. -/
def stepOp (P : Program) (call : CallF) (ops : Array Oper) (o : Oper) (a : Act) : Comp Value := br (Region.wanted o (yielded ops a.tmps)) (evOper P call o a) (ret undef)
theorem stepOp_loc [Env] {call : CallF} (hcall : ∀ k args, Local (call k args)) {ops : Array Oper} {o : Oper} {a : Act} : Local (stepOp P call ops o a) := Local.br (evOper_loc hcall) (Local.ret _)
theorem stepOp_ok [Env] {call : CallF} (hcall : CallOK P N call) {ops : Array Oper} {k : Nat} {o : Oper} (ho : ops[k]? = some o) {a ar : Act} {c : Nat} {h : Tr} {out : Out Value} {w : World} (he : stepOp P call ops o a c h = some out) (ha : AR β a ar) (hs : Sim P N β h w) (hN : N ≤ w.heap.size) (hf : ∀ i, c ≤ i → i < out.c → β i = none)
    {K : Act → World → Prop} {Q : Exit → Act → World → Prop}
    (hK : ∀ v' w' β', Ext c out.c β β' → Sim P N β' out.h w' → VR β' out.a v' → Keep N w w' → K (ar.put o.dst v') w') : wpOp P ops Q k K ar w := by
  unfold wpOp
  simp only [ho, ha.yielded]
  rcases br_some he with ⟨hw, he⟩ | ⟨hw, he⟩
  · rw [if_pos hw]
    exact .inl (evOper_ok hcall he ha hs hN hf hK)
  · rw [hw]
    simp only [Bool.false_eq_true, if_false]
    simp only [ret, Option.some.injEq] at he; subst he
    exact hK undef w β (Ext.refl _ _ _) hs VR.undef (Keep.refl _ _)
/-- What a step looks at among the slots. -/
theorem stepOp_congr [Env] {call : CallF} {ops : Array Oper} {o : Oper} {a b : Act} (h : ∀ t ∈ o.looksAt ops, a.tmps.getD t undef = b.tmps.getD t undef) (hsz : a.tmps.size = b.tmps.size) : stepOp P call ops o a = stepOp P call ops o b := by
  have e1 : evOper P call o a = evOper P call o b := evOper_congr fun x hx => by
    cases x with
    | tmp t => exact h t (List.mem_append_left _ (List.mem_filterMap.2 ⟨.tmp t, by simpa using hx, rfl⟩))
    | _ => rfl
  have e2 : Region.wanted o (yielded ops a.tmps) = Region.wanted o (yielded ops b.tmps) := by
    unfold Region.wanted
    cases hg : o.guard with
    | none => rfl
    | some gw =>
      obtain ⟨g, want⟩ := gw
      have hy : yielded ops a.tmps g = yielded ops b.tmps g := by
        unfold yielded
        cases ht : (ops[g]?).bind (·.dst) with
        | none => rfl
        | some t =>
          have := h t (by simp [Oper.looksAt, hg, ht])
          simp only [Option.bind_some]
          rcases getQ _ _ hsz t with ⟨e1, e2⟩ | ⟨e1, e2⟩
          · rw [e1, e2]
          · rw [e1, e2, this]
      simp only [hy]
  unfold stepOp
  rw [e1, e2]
end Go.Proofs.Ytdpmjghdmpaehaa.ev
