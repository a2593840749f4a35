/-
  Code and calls: what the small memory's run of a function comes to, the function comes to, whatever is drawn. Conditions: none.
-/
import Derived.Test.YtdpmjghdmpaehaaEvL
import Derived.LoopN
import Derived.Defers
import Derived.Scope
namespace Go.Proofs.Ytdpmjghdmpaehaa.ev
set_option linter.unusedVariables false
set_option linter.unusedSimpArgs false
variable {P : Program} {N : Nat} {β : Mp}
/-- A call that is to wait for the end. -/
def deferOf (a : Act) (c : Call) : Option Deferred :=
  match c.callee with
  | .value f => match (f :: c.args.toList).all opOk with
    | true => match a.eval f with
      | .func (.func k) first captured => some ⟨.fn (.func k) captured, first ++ c.args.map a.eval⟩
      | _ => none
    | false => none
  | _ => none
def callD : Op → Option Call
  | .defer c => some c
  | _ => none
theorem callD_some {o : Op} {c : Call} (h : callD o = some c) : o = .defer c := by
  unfold callD at h
  split at h
  · cases h; rfl
  · cases h
/-- One step in the text's order: an operation, or a call that is to wait. -/
def stepD (P : Program) (call : CallF) (ops : Array Oper) (o : Oper) (a : Act) : Comp Act :=
  match callD o.op with
  | some c => br (Region.wanted o (yielded ops a.tmps)) (bind (ofOpt (deferOf a c)) fun d => ret ({ a with defers := d :: a.defers }.put o.dst undef)) (ret (a.put o.dst undef))
  | none => bind (stepOp P call ops o a) fun v => ret (a.put o.dst v)
theorem stepD_loc [Env] {call : CallF} (hcall : ∀ k args, Local (call k args)) {ops : Array Oper} {o : Oper} {a : Act} : Local (stepD P call ops o a) := by
  unfold stepD
  split
  · exact Local.br (Local.bind (Local.ofOpt _) fun _ => Local.ret _) (Local.ret _)
  · exact Local.bind (stepOp_loc hcall) fun _ => Local.ret _
theorem stepD_ok [Env] {call : CallF} (hcall : CallOK P N call) {ops : Array Oper} {k : Nat} {o : Oper} (ho : ops[k]? = some o) {a ar : Act} {c : Nat} {h : Tr} {out : Out Act} {w : World} (he : stepD P call ops o a c h = some out) (ha : AR β a ar) (hs : Sim P N β h w) (hN : N ≤ w.heap.size) (hf : ∀ i, c ≤ i → i < out.c → β i = none)
    {K : Act → World → Prop} {Q : Exit → Act → World → Prop}
    (hK : ∀ ar' w' β', Ext c out.c β β' → Sim P N β' out.h w' → AR β' out.a ar' → Keep N w w' → K ar' w') : wpOp P ops Q k K ar w := by
  cases hcd : callD o.op with
  | some cl =>
    have hop := callD_some hcd
    simp only [stepD, hcd] at he
    unfold wpOp
    simp only [ho, ha.yielded]
    rcases br_some he with ⟨hw, he⟩ | ⟨hw, he⟩
    · rw [if_pos hw]
      refine .inl ?_
      obtain ⟨o1, q1, ho1, hq1, rfl⟩ := bind_some he
      obtain ⟨d, hd, rfl⟩ := ofOpt_some ho1
      simp only [ret, Option.some.injEq] at hq1; subst hq1
      unfold deferOf at hd
      split at hd
      · rename_i f hcal
        split at hd
        · rename_i hops
          split at hd
          · rename_i k' first captured hfv
            simp only [Option.some.injEq] at hd; subst hd
            simp only [List.all_cons, Bool.and_eq_true] at hops
            have hv := ha.eval hops.1
            rw [hfv] at hv
            generalize hfr : ar.eval f = fv at hv
            cases hv with
            | @func _ _ first' _ captured' h1 h2 h3 h4 =>
              have hargs : PW β (first ++ cl.args.map a.eval).toList (first' ++ cl.args.map ar.eval).toList := by
                rw [Array.toList_append, Array.toList_append, Array.toList_map, Array.toList_map]
                exact (PW.of_arr h1 h2).append (ha.evals _ hops.2)
              have hrun : (execOp ar.eval o).run P w = .ok (.defer ⟨.fn (.func k') captured', first' ++ cl.args.map ar.eval⟩) w := by
                simp [execOp, hop, resolve, hcal, hfr, Deferred.ofValue, Sem.run_bind]
              unfold Oper.wp
              rw [hrun, Oper.upon_defer]
              exact hK _ w β (Ext.refl _ _ _) hs (AR.put (a := { a with defers := ⟨.fn (.func k') captured, first ++ cl.args.map a.eval⟩ :: a.defers }) (ar := { ar with defers := ⟨.fn (.func k') captured', first' ++ cl.args.map ar.eval⟩ :: ar.defers }) ⟨ha.t, .cons (PW.of_arr h3 h4) hargs ha.d⟩ o.dst VR.undef) (Keep.refl _ _)
          · cases hd
        · cases hd
      · cases hd
    · rw [hw]
      simp only [Bool.false_eq_true, if_false]
      simp only [ret, Option.some.injEq] at he; subst he
      exact hK _ w β (Ext.refl _ _ _) hs (ha.put _ VR.undef) (Keep.refl _ _)
  | none =>
    simp only [stepD, hcd] at he
    obtain ⟨o1, q1, ho1, hq1, rfl⟩ := bind_some he
    simp only [ret, Option.some.injEq] at hq1; subst hq1
    refine stepOp_ok hcall ho ho1 ha hs hN hf fun v' w' β' e1 e2 e3 e4 => ?_
    exact hK _ w' β' e1 e2 ((ha.mono e1.old).put _ e3) e4
def seqOps (P : Program) (call : CallF) (ops : Array Oper) : List Oper → Act → Comp Act
  | [], a => ret a
  | o :: l, a => bind (stepD P call ops o a) fun a' => seqOps P call ops l a'
theorem seqOps_loc [Env] {call : CallF} (hcall : ∀ k args, Local (call k args)) {ops : Array Oper} : ∀ (l : List Oper) (a : Act), Local (seqOps P call ops l a)
  | [], a => Local.ret a
  | o :: l, a => Local.bind (stepD_loc hcall) fun v => seqOps_loc hcall l _
theorem fresh_left {β β' : Mp} {c c1 c2 : Nat} (he : Ext c c1 β β') (hf : ∀ i, c ≤ i → i < c2 → β i = none) (hc : c ≤ c1) : ∀ i, c1 ≤ i → i < c2 → β' i = none := fun i h1 h2 => by
  by_cases e : β' i = β i
  · rw [e]; exact hf i (by omega) h2
  · have := he.new i e; omega
theorem seqOps_ok [Env] {call : CallF} (hcall : CallOK P N call) {ops : Array Oper} {Q : Exit → Act → World → Prop} : ∀ (l : List Oper) (k : Nat) (a ar : Act) (c : Nat) (h : Tr) (w : World) (β : Mp) (out : Out Act), ops.toList.drop k = l → seqOps P call ops l a c h = some out →
    Sim P N β h w → AR β a ar → N ≤ w.heap.size → (∀ i, c ≤ i → i < out.c → β i = none) →
    (∀ ar' w' β', Ext c out.c β β' → Sim P N β' out.h w' → AR β' out.a ar' → Keep N w w' → Q .normal ar' w') → wpOps P ops Q (List.range' k l.length) ar w
  | [], k, a, ar, c, h, w, β, out, hl, he, hs, ha, hN, hf, hQ => by
    simp only [seqOps, ret, Option.some.injEq] at he; subst he
    exact hQ ar w β (Ext.refl _ _ _) hs ha (Keep.refl _ _)
  | o :: l, k, a, ar, c, h, w, β, out, hl, he, hs, ha, hN, hf, hQ => by
    have hk : ops[k]? = some o := by
      have : (ops.toList.drop k)[0]? = some o := by rw [hl]; rfl
      rw [List.getElem?_drop] at this
      simpa using this
    have hl' : ops.toList.drop (k + 1) = l := by rw [← List.drop_drop, hl]; rfl
    obtain ⟨o1, q1, ho1, hq1, rfl⟩ := bind_some he
    have c1 := (stepD_loc hcall.loc _ _ _ ho1).1
    have c2 := (seqOps_loc (P := P) hcall.loc l _ _ _ _ hq1).1
    rw [List.length_cons, List.range'_succ, wpOps_cons]
    refine stepD_ok hcall hk ho1 ha hs hN (fun i h1 h2 => hf i h1 (by simp only; omega)) fun ar1 w' β' e1 e2 e3 e4 => ?_
    refine seqOps_ok hcall l (k + 1) _ _ _ _ _ β' _ hl' hq1 e2 e3 (Nat.le_trans hN e4.size) (fresh_left e1 hf c1) fun ar' w'' β'' k1 k2 k3 k4 => ?_
    exact hQ ar' w'' β'' (e1.trans k1 c1 c2) k2 k3 (e4.trans k4)
def evRegion (P : Program) (call : CallF) (ops : Array Oper) (a : Act) : Bool → Comp Act
  | true => anyOps P call ops ops.toList 0 [] a
  | false => seqOps P call ops ops.toList a
def isNorm : Exit → Bool
  | .normal => true
  | _ => false
def isRet : Exit → Bool
  | .normal => true
  | .ret => true
  | _ => false
def notGoto : Exit → Bool
  | .goto _ => false
  | .outgrown => false
  | .panic _ => false
  | _ => true
def leave (id : Nat) : Exit → Exit
  | .exit i => match Nat.beq i id with
    | true => .normal
    | false => .exit i
  | e => e
def rounds (rec : Act → Comp (Exit × Act)) : Nat → Act → Comp (Exit × Act)
  | 0, _ => fail
  | n + 1, a => bind (rec a) fun r => br (isNorm r.1) (rounds rec n r.2) (ret r)
def resCells (P : Program) (a : Act) : List ResultVar → Comp (List Value)
  | [] => ret []
  | .tmp t :: r => bind (resCells P a r) fun vs => ret (a.tmps.getD t undef :: vs)
  | .cell p t :: r => bind (evLoad P t (a.tmps.getD p undef)) fun v => bind (resCells P a r) fun vs => ret (v :: vs)
def resVal : List Value → Value
  | [v] => v
  | vs => .tuple vs.toArray
/-- A call that waited: it leaves none behind itself. -/
def callOnce (P : Program) (rec : Code → Act → Comp (Exit × Act)) (k : FuncId) (args : List Value) : Comp Value :=
  match P.funcs[k]? with
  | none => fail
  | some fn => match fn.body with
    | none => fail
    | some c => bind (rec c ⟨(args ++ List.replicate (fn.ntmps - args.length) undef).toArray, []⟩) fun r =>
        gd (isRet r.1 && r.2.defers.isEmpty) (bind (resCells P r.2 fn.results.toList) fun vs => ret (resVal vs))
/-- The calls that waited, one by one. -/
def runDs (P : Program) (rec : Code → Act → Comp (Exit × Act)) : List Deferred → Comp Value
  | [] => ret undef
  | ⟨.fn (.func k) cap, args⟩ :: l => bind (callOnce P rec k (args.toList ++ cap.toList)) fun _ => runDs P rec l
  | _ :: _ => fail
def callWith (P : Program) (rec : Code → Act → Comp (Exit × Act)) (k : FuncId) (args : List Value) : Comp Value :=
  match P.funcs[k]? with
  | none => fail
  | some fn => match fn.body with
    | none => fail
    | some c => bind (rec c ⟨(args ++ List.replicate (fn.ntmps - args.length) undef).toArray, []⟩) fun r =>
        gd (isRet r.1) (bind (runDs P rec r.2.defers) fun _ => bind (resCells P r.2 fn.results.toList) fun vs => ret (resVal vs))
def many : Nat := 100000
def condOf (a : Act) (c : Operand) : Option Bool :=
  match opOk c with
  | true => match a.eval c with
    | .bool b => some b
    | _ => none
  | false => none
abbrev TabF := Oper → List Value → Option Value
/-- What is known of calls ahead. -/
abbrev SpF := FuncId → List Value → Option (Comp Value)
def withSp (P : Program) (sp : SpF) (rec : Code → Act → Comp (Exit × Act)) (k : FuncId) (args : List Value) : Comp Value :=
  match sp k args with
  | some m => m
  | none => callWith P rec k args
structure SpOK [Env] (P : Program) (sp : SpF) : Prop where
  loc : ∀ k args m, sp k args = some m → Local m
  fn : ∀ k args m, sp k args = some m → ∃ fn, P.funcs[k]? = some fn ∧ (fn.name == "runtime.NumGoroutine") = false ∧ fn.body.isNone = false
  run : ∀ k args m, sp k args = some m → ∀ (N : Nat) (args' : List Value) (β : Mp) (c : Nat) (h : Tr) (o : Out Value) (w : World), m c h = some o → PW β args args' → Sim P N β h w → N ≤ w.heap.size → (∀ i, c ≤ i → i < o.c → β i = none) →
    Calls P k args'.toArray w (fun e w' => ∃ v' β', e = .returned v' ∧ Ext c o.c β β' ∧ Sim P N β' o.h w' ∧ VR β' o.a v' ∧ Keep N w w')
def evCode (P : Program) (tab : TabF) (sp : SpF) : Nat → Code → Act → Comp (Exit × Act)
  | 0, _, _ => fail
  | _ + 1, .skip, a => ret (.normal, a)
  | _ + 1, .label _, a => ret (.normal, a)
  | _ + 1, .ret, a => ret (.ret, a)
  | _ + 1, .exit id, a => ret (.exit id, a)
  | f + 1, .region _ ops draw, a => bind (evRegion P ⟨fun k args => withSp P sp (evCode P tab sp f) k args, tab⟩ ops a draw) fun a' => ret (.normal, a')
  | f + 1, .seq x y, a => bind (evCode P tab sp f x a) fun r => br (isNorm r.1) (evCode P tab sp f y r.2) (ret r)
  | f + 1, .cond c x y, a => bind (ofOpt (condOf a c)) fun b => br b (evCode P tab sp f x a) (evCode P tab sp f y a)
  | f + 1, .block id b, a => bind (evCode P tab sp f b a) fun r => ret (leave id r.1, r.2)
  | f + 1, .loop b, a => rounds (evCode P tab sp f b) many a
  | f + 1, .scope b, a => bind (evCode P tab sp f b a) fun r => gd (notGoto r.1) (ret r)
  | _ + 1, _, _ => fail
def evCall (P : Program) (tab : TabF) (sp : SpF) (f : Nat) : CallF := ⟨fun k args => withSp P sp (evCode P tab sp f) k args, tab⟩
theorem evLoad_loc {t : TypeId} {p : Value} : Local (evLoad P t p) := by
  unfold evLoad
  split
  · exact Local.bind (Local.rd _) fun _ => Local.ofOpt _
  · exact Local.fail
theorem resCells_loc [Env] {a : Act} : ∀ (l : List ResultVar), Local (resCells P a l)
  | [] => Local.ret _
  | .tmp t :: r => Local.bind (resCells_loc r) fun _ => Local.ret _
  | .cell p t :: r => Local.bind evLoad_loc fun _ => Local.bind (resCells_loc r) fun _ => Local.ret _
theorem rounds_loc [Env] {rec : Act → Comp (Exit × Act)} (h : ∀ a, Local (rec a)) : ∀ (n : Nat) (a : Act), Local (rounds rec n a)
  | 0, a => Local.fail
  | n + 1, a => Local.bind (h a) fun r => Local.br (rounds_loc h n _) (Local.ret _)
theorem callOnce_loc [Env] {rec : Code → Act → Comp (Exit × Act)} (h : ∀ c a, Local (rec c a)) (k : FuncId) (args : List Value) : Local (callOnce P rec k args) := by
  unfold callOnce
  split
  · exact Local.fail
  · split
    · exact Local.fail
    · exact Local.bind (h _ _) fun r => Local.gd (Local.bind (resCells_loc _) fun _ => Local.ret _)
theorem runDs_loc [Env] {rec : Code → Act → Comp (Exit × Act)} (h : ∀ c a, Local (rec c a)) : ∀ (l : List Deferred), Local (runDs P rec l)
  | [] => Local.ret _
  | ⟨.fn (.func k) cap, args⟩ :: l => Local.bind (callOnce_loc h _ _) fun _ => runDs_loc h l
  | ⟨.fn (.method _) _, _⟩ :: _ => Local.fail
  | ⟨.fn (.methodOf _ _) _, _⟩ :: _ => Local.fail
  | ⟨.fn (.via _ _ _ _) _, _⟩ :: _ => Local.fail
  | ⟨.fn (.yield _) _, _⟩ :: _ => Local.fail
  | ⟨.nil, _⟩ :: _ => Local.fail
  | ⟨.builtin _ _ _ _, _⟩ :: _ => Local.fail
  | ⟨.collected _, _⟩ :: _ => Local.fail
  | ⟨.coroexit _, _⟩ :: _ => Local.fail
theorem callWith_loc [Env] {rec : Code → Act → Comp (Exit × Act)} (h : ∀ c a, Local (rec c a)) (k : FuncId) (args : List Value) : Local (callWith P rec k args) := by
  unfold callWith
  split
  · exact Local.fail
  · split
    · exact Local.fail
    · exact Local.bind (h _ _) fun r => Local.gd (Local.bind (runDs_loc h _) fun _ => Local.bind (resCells_loc _) fun _ => Local.ret _)
theorem withSp_loc [Env] {sp : SpF} (hsp : ∀ k args m, sp k args = some m → Local m) {rec : Code → Act → Comp (Exit × Act)} (h : ∀ c a, Local (rec c a)) (k : FuncId) (args : List Value) : Local (withSp P sp rec k args) := by
  unfold withSp
  split
  · rename_i m hm; exact hsp _ _ _ hm
  · exact callWith_loc h k args
theorem evCode_loc [Env] {tab : TabF} {sp : SpF} (hsp : ∀ k args m, sp k args = some m → Local m) : ∀ (f : Nat) (c : Code) (a : Act), Local (evCode P tab sp f c a)
  | 0, c, a => Local.fail
  | f + 1, c, a => by
    cases c with
    | skip => exact Local.ret _
    | label l => exact Local.ret _
    | ret => exact Local.ret _
    | exit id => exact Local.ret _
    | region id ops draw =>
      refine Local.bind ?_ fun _ => Local.ret _
      cases draw with
      | true => exact anyOps_loc (fun k args => withSp_loc hsp (evCode_loc hsp f) k args) _ _ _ _
      | false => exact seqOps_loc (fun k args => withSp_loc hsp (evCode_loc hsp f) k args) _ _
    | seq x y => exact Local.bind (evCode_loc hsp f x a) fun r => Local.br (evCode_loc hsp f y _) (Local.ret _)
    | cond c x y => exact Local.bind (Local.ofOpt _) fun b => Local.br (evCode_loc hsp f x _) (evCode_loc hsp f y _)
    | block id b => exact Local.bind (evCode_loc hsp f b a) fun r => Local.ret _
    | loop b => exact rounds_loc (fun a => evCode_loc hsp f b a) _ _
    | scope b => exact Local.bind (evCode_loc hsp f b a) fun r => Local.gd (Local.ret _)
    | _ => exact Local.fail
theorem evLoad_read [Env] {t : TypeId} {p p' : Value} (hp : VR β p p') {c : Nat} {h : Tr} {o : Out Value} {w : World} (he : evLoad P t p c h = some o) (hs : Sim P N β h w) :
    o.c = c ∧ o.h = h ∧ ∃ v', VR β o.a v' ∧ (Instr.loadAt t p').run P w = .ok v' w ∧ ∃ a', p' = .pointer (some a') := by
  cases hp with
  | @ptr i I off hβ =>
    simp only [evLoad] at he
    obtain ⟨o1, q1, ho1, hq1, rfl⟩ := bind_some he
    simp only [ev.rd] at ho1
    split at ho1
    · rename_i ao hao
      simp only [Option.some.injEq] at ho1; subst ho1
      obtain ⟨v, hv, rfl⟩ := ofOpt_some hq1
      refine ⟨rfl, rfl, ?_⟩
      obtain ⟨I', hI, hN', hlt, hob⟩ := hs.obj i ao hao
      rw [hβ] at hI; cases hI
      cases ao with
      | map es clk => cases hv
      | iter q0 p0 => cases hv
      | mapIt q0 q1 q2 q3 => cases hv
      | row C te g =>
        obtain ⟨hok, vs, hpw, hlen, hra, hth, _, _⟩ := hob
        simp only [loadRow] at hv
        split at hv
        · rename_i d hd
          split at hv
          · rename_i hrow
            split at hv
            · rename_i n hn
              split at hv
              · rename_i hb
                have hb := Nat.of_beq hb
                have hs0 := Cs.sub_ok C _ _ hok hb
                rw [hs0] at hb hv
                simp only [Option.some.injEq] at hv; subst hv
                have hpw' := (hpw.drop off).take n
                exact ⟨_, hpw'.agg, run_loadAt_mid w I.blk (I.base + off) t _ d (range_sub hra) hd hrow (by rw [← hpw'.1, hb]; exact hn), _, rfl⟩
              · cases hv
            · cases hv
          · rename_i hrow
            obtain ⟨v', hv', hvr⟩ := hpw.get (Cs.get_ok C _ _ hok hv)
            have hc := hra _ _ hv'
            exact ⟨v', hvr, by simp [Instr.loadAt, Instr.sureAddr, loadVar, Sem.run_bind, run_isAgg hd, hrow, load, Sem.run, hc], _, rfl⟩
        · cases hv
    · cases ho1
  | _ => simp [evLoad, fail] at he
def resOne (tmps : Array Value) : ResultVar → Sem Value
  | .tmp t => pure (tmps.getD t undef)
  | .cell a t => do loadVar t (← asAddr (tmps.getD a undef))
theorem resCells_ok [Env] {a ar : Act} (ha : AR β a ar) {c : Nat} {h : Tr} {w : World} (hs : Sim P N β h w) : ∀ (l : List ResultVar) (o : Out (List Value)), resCells P a l c h = some o →
    o.c = c ∧ o.h = h ∧ ∃ vs, PW β o.a vs ∧ (l.mapM (resOne ar.tmps)).run P w = .ok vs w
  | [], o, he => by
    simp only [resCells, ret, Option.some.injEq] at he; subst he
    exact ⟨rfl, rfl, [], PW.nil β, by simp⟩
  | .tmp t :: r, o, he => by
    obtain ⟨o1, q1, ho1, hq1, rfl⟩ := bind_some he
    obtain ⟨e1, e2, vs, h1, h2⟩ := resCells_ok ha hs r o1 ho1
    simp only [ret, Option.some.injEq] at hq1; subst hq1
    refine ⟨e1, e2, _, PW.cons (ha.slot t) h1, ?_⟩
    rw [List.mapM_cons]
    simp only [resOne, Sem.run_bind, Sem.run_pure, Result.andThen_ok, h2]
  | .cell p t :: r, o, he => by
    obtain ⟨o1, q1, ho1, hq1, rfl⟩ := bind_some he
    obtain ⟨e1, e2, v', h1, h2, a', h3⟩ := evLoad_read (P := P) (ha.slot p) ho1 hs
    obtain ⟨o2, q2, ho2, hq2, rfl⟩ := bind_some hq1
    rw [e1, e2] at ho2
    obtain ⟨e3, e4, vs, k1, k2⟩ := resCells_ok ha hs r o2 ho2
    simp only [ret, Option.some.injEq] at hq2; subst hq2
    refine ⟨e3, e4, _, PW.cons h1 k1, ?_⟩
    rw [List.mapM_cons]
    rw [h3] at h2
    simp only [Instr.loadAt, Instr.sureAddr, Sem.run_bind, Sem.run_pure, Result.andThen_ok] at h2
    simp only [resOne, h3, asAddr, Sem.run_bind, Sem.run_pure, Result.andThen_ok, h2, k2]
theorem results_run {fn : Func} {ar : Act} {w : World} {vs : List Value} (h : (fn.results.toList.mapM (resOne ar.tmps)).run P w = .ok vs w) : (results fn ar.tmps).run P w = .ok (resVal vs) w := by
  have e : results fn ar.tmps = (do let vs ← fn.results.mapM (resOne ar.tmps); pure (if h : vs.size = 1 then vs[0] else .tuple vs) : Sem Value) := by
    unfold results
    congr 1
  rw [e, Array.mapM_eq_mapM_toList]
  simp only [map_eq_pure_bind, Sem.run_bind, h, Result.andThen_ok, Sem.run_pure]
  congr 1
  match vs with
  | [] => simp [resVal]
  | [v] => simp [resVal]
  | v :: u :: r => simp [resVal]
theorem PW.resVal [Env] {l l' : List Value} (h : PW β l l') : VR β (resVal l) (resVal l') := by
  match l, l', h with
  | [], l', h => rw [h.nil_left]; exact VR.undef
  | [v], l', h =>
    obtain ⟨v', rfl, hv⟩ := h.one
    exact hv
  | v :: u :: r, l', h =>
    have hl := h.1
    match l', h with
    | [], h => simp at hl
    | [_], h => simp at hl
    | v' :: u' :: r', h =>
      have := PW.arr (β := β) (c := (v :: u :: r).toArray) (c' := (v' :: u' :: r').toArray) (by simpa using h)
      exact .tuple this.1 this.2
structure CodeOK [Env] (P : Program) (N : Nat) (rec : Code → Act → Comp (Exit × Act)) : Prop where
  loc : ∀ c a, Local (rec c a)
  run : ∀ code a ar c h o w β, rec code a c h = some o → Sim P N β h w → N ≤ w.heap.size → (∀ i, c ≤ i → i < o.c → β i = none) → AR β a ar → ∀ Q : Exit → Act → World → Prop,
    (∀ ar' w' β', Ext c o.c β β' → Sim P N β' o.h w' → AR β' o.a.2 ar' → Keep N w w' → Q o.a.1 ar' w') → code.wp P Q ar w
theorem enter_AR [Env] {args args' : List Value} (hp : PW β args args') (n : Nat) : AR β ⟨(args ++ List.replicate (n - args.length) undef).toArray, []⟩ ⟨args'.toArray ++ Array.replicate (n - args'.toArray.size) undef, []⟩ := by
  have hlen := hp.1
  have hrep : PW β (List.replicate (n - args.length) undef) (List.replicate (n - args.length) undef) := PW.of_flat (by
    rw [List.all_eq_true]; intro v hv
    rw [(List.mem_replicate.1 hv).2]; rfl)
  refine ⟨?_, .nil⟩
  have e : (args'.toArray ++ Array.replicate (n - args'.toArray.size) undef).toList = args' ++ List.replicate (n - args.length) undef := by
    simp [hlen]
  rw [e]
  exact hp.append hrep
theorem callOnce_fn {rec : Code → Act → Comp (Exit × Act)} {k : FuncId} {args : List Value} {c : Nat} {hh : Tr} {o : Out Value} (he : callOnce P rec k args c hh = some o) : ∃ fn, P.funcs[k]? = some fn ∧ fn.body.isNone = false := by
  simp only [callOnce] at he
  cases hfn : P.funcs[k]? with
  | none => rw [hfn] at he; cases he
  | some fn =>
    rw [hfn] at he
    simp only at he
    cases hb : fn.body with
    | none => rw [hb] at he; cases he
    | some c => exact ⟨fn, rfl, by simp [hb]⟩
theorem callOnce_ok [Env] {rec : Code → Act → Comp (Exit × Act)} (h : CodeOK P N rec) {k : FuncId} {args args' : List Value} {c : Nat} {hh : Tr} {o : Out Value} {w : World} (he : callOnce P rec k args c hh = some o) (hp : PW β args args') (hs : Sim P N β hh w) (hN : N ≤ w.heap.size) (hf : ∀ i, c ≤ i → i < o.c → β i = none) (u : FrameMode) :
    CallsD P k args'.toArray u w (fun e u' w' => u' = u ∧ ∃ v' β', e = .returned v' ∧ Ext c o.c β β' ∧ Sim P N β' o.h w' ∧ VR β' o.a v' ∧ Keep N w w') := by
  simp only [callOnce] at he
  cases hfn : P.funcs[k]? with
  | none => rw [hfn] at he; cases he
  | some fn =>
    rw [hfn] at he
    simp only at he
    cases hb : fn.body with
    | none => rw [hb] at he; cases he
    | some code =>
      rw [hb] at he
      simp only at he
      obtain ⟨o1, q1, ho1, hq1, rfl⟩ := bind_some he
      obtain ⟨hret, hq1⟩ := gd_some hq1
      simp only [Bool.and_eq_true] at hret
      obtain ⟨hret, hnod⟩ := hret
      obtain ⟨o2, q2, ho2, hq2, rfl⟩ := bind_some hq1
      simp only [ret, Option.some.injEq] at hq2; subst hq2
      have c1 := (h.loc _ _ _ _ _ ho1).1
      have c2 := (resCells_loc (P := P) _ _ _ _ ho2).1
      refine callsD_of_wp hfn hb ?_
      refine h.run _ _ _ _ _ _ w β ho1 hs hN (fun i h1 h2 => hf i h1 (by simp only; omega)) (enter_AR hp _) _ fun ar' w' β' e1 e2 e3 e4 => ?_
      obtain ⟨k1, k2, vs, k3, k4⟩ := resCells_ok (P := P) e3 e2 _ _ ho2
      have hr := results_run (P := P) (fn := fn) k4
      have hd : ar'.defers = [] := by
        have hd := e3.d
        rw [List.isEmpty_iff.1 hnod] at hd
        exact hd.none_left
      have key : ar'.defers = [] ∧ ∃ v, (results fn ar'.tmps).run P w' = .ok v w' ∧ (fun (e : Ending) (w' : World) => ∃ v' β', e = .returned v' ∧ Ext c o2.c β β' ∧ Sim P N β' o2.h w' ∧ VR β' (resVal o2.a) v' ∧ Keep N w w') (.returned v) w' :=
        ⟨hd, _, hr, _, β', rfl, by rw [k1]; exact e1, by rw [k2]; exact e2, k3.resVal, e4⟩
      cases he1 : o1.a.1 with
      | normal => exact key
      | ret => exact key
      | _ => rw [he1] at hret; cases hret
theorem runDs_ok [Env] (hnn : ∀ (k : Nat) (fn : Func), P.funcs[k]? = some fn → (fn.name == "runtime.NumGoroutine") = false) {rec : Code → Act → Comp (Exit × Act)} (h : CodeOK P N rec) {fn : Func} {tmps : Array Value} {R : Ending → World → Prop} : ∀ (l l' : List Deferred) (c : Nat) (hh : Tr) (o : Out Value) (w : World) (β : Mp), DL β l l' → runDs P rec l c hh = some o → Sim P N β hh w → N ≤ w.heap.size → (∀ i, c ≤ i → i < o.c → β i = none) →
    (∀ w' β', Ext c o.c β β' → Sim P N β' o.h w' → Keep N w w' → ∃ v, (results fn tmps).run P w' = .ok v w' ∧ R (.returned v) w') → Leaves P fn tmps R l' .returning w
  | _, _, c, hh, o, w, β, .nil, he, hs, hN, hf, hK => by
    simp only [runDs, ret, Option.some.injEq] at he; subst he
    exact hK w β (Ext.refl _ _ _) hs (Keep.refl _ _)
  | _, _, c, hh, o, w, β, .cons (k := k) (cap := cap) (cap' := cap') (args := args) (args' := args') (l := l) (l' := l') p1 p2 p3, he, hs, hN, hf, hK => by
    simp only [runDs] at he
    obtain ⟨o1, q1, ho1, hq1, rfl⟩ := bind_some he
    have c1 := (callOnce_loc h.loc _ _ _ _ _ ho1).1
    have c2 := (runDs_loc (P := P) h.loc l _ _ _ hq1).1
    obtain ⟨fn', g1, g3⟩ := callOnce_fn ho1
    have hi : (invoke (.fn (.func k) cap') args').run P w = .ok (.enter k (args' ++ cap')) w := run_callFunc (P := P) g1 (hnn k fn' g1) g3 w
    refine leaves_cons (fun e => by cases e) hi ?_
    have e1 : (args'.toList ++ cap'.toList).toArray = args' ++ cap' := by apply Array.ext'; simp
    have hc := callOnce_ok h ho1 (p2.append p1) hs hN (fun i h1 h2 => hf i h1 (by simp only; omega)) .returning
    rw [e1] at hc
    refine hc.mono ?_
    rintro e u' w' ⟨rfl, v', β', rfl, k1, k2, k3, k4⟩
    show Leaves P fn tmps R l' .returning w'
    exact runDs_ok hnn h l l' _ _ _ w' β' (p3.mono k1.old) hq1 k2 (Nat.le_trans hN k4.size) (fresh_left k1 hf c1) fun w'' β'' m1 m2 m3 => hK w'' β'' (k1.trans m1 c1 c2) m2 (k4.trans m3)
theorem CodeOK.call0 [Env] (hnn : ∀ (k : Nat) (fn : Func), P.funcs[k]? = some fn → (fn.name == "runtime.NumGoroutine") = false) {rec : Code → Act → Comp (Exit × Act)} (h : CodeOK P N rec) {tab : TabF} (htab : ∀ β o xs v ρ, tab o xs = some v → PW β xs (o.op.operands.toList.map ρ) → ∃ v', VR β v v' ∧ ∀ w, (execOp ρ o).run P w = .ok (.value v') w) : CallOK P N ⟨fun k args => callWith P rec k args, tab⟩ where
  tab := htab
  loc := callWith_loc h.loc
  fn := fun k args c hh o he => by
    simp only [callWith] at he
    cases hfn : P.funcs[k]? with
    | none => rw [hfn] at he; cases he
    | some fn =>
      rw [hfn] at he
      simp only at he
      cases hb : fn.body with
      | none => rw [hb] at he; cases he
      | some c => exact ⟨fn, rfl, hnn k fn hfn, by simp [hb]⟩
  run := fun k args args' β c hh o w he hp hs hN hf => by
    simp only [callWith] at he
    cases hfn : P.funcs[k]? with
    | none => rw [hfn] at he; cases he
    | some fn =>
      rw [hfn] at he
      simp only at he
      cases hb : fn.body with
      | none => rw [hb] at he; cases he
      | some code =>
        rw [hb] at he
        simp only at he
        obtain ⟨o1, q1, ho1, hq1, rfl⟩ := bind_some he
        obtain ⟨hret, hq1⟩ := gd_some hq1
        obtain ⟨o3, q3, ho3, hq3, rfl⟩ := bind_some hq1
        obtain ⟨o2, q2, ho2, hq2, rfl⟩ := bind_some hq3
        simp only [ret, Option.some.injEq] at hq2; subst hq2
        have c1 := (h.loc _ _ _ _ _ ho1).1
        have c3 := (runDs_loc (P := P) h.loc _ _ _ _ ho3).1
        have c2 := (resCells_loc (P := P) _ _ _ _ ho2).1
        refine calls_of_wp_defers hfn hb ?_
        refine h.run _ _ _ _ _ _ w β ho1 hs hN (fun i h1 h2 => hf i h1 (by simp only; omega)) (enter_AR hp _) _ fun ar' w' β' e1 e2 e3 e4 => ?_
        have key : Leaves P fn ar'.tmps (fun (e : Ending) (w' : World) => ∃ v' β', e = .returned v' ∧ Ext c o2.c β β' ∧ Sim P N β' o2.h w' ∧ VR β' (resVal o2.a) v' ∧ Keep N w w') ar'.defers .returning w' := by
          refine runDs_ok hnn h _ _ _ _ _ w' β' e3.d ho3 e2 (Nat.le_trans hN e4.size) (fun i h1 h2 => fresh_left e1 (fun i h1 h2 => hf i h1 (by simp only; omega)) c1 i h1 h2) fun w'' β'' m1 m2 m3 => ?_
          obtain ⟨k1, k2, vs, k3, k4⟩ := resCells_ok (P := P) (e3.mono m1.old) m2 _ _ ho2
          have hr := results_run (P := P) (fn := fn) k4
          exact ⟨_, hr, _, β'', rfl, by rw [k1]; exact e1.trans m1 c1 c3, by rw [k2]; exact m2, k3.resVal, e4.trans m3⟩
        cases he1 : o1.a.1 with
        | normal => exact key
        | ret => exact key
        | _ => rw [he1] at hret; cases hret
theorem CodeOK.call [Env] (hnn : ∀ (k : Nat) (fn : Func), P.funcs[k]? = some fn → (fn.name == "runtime.NumGoroutine") = false) {rec : Code → Act → Comp (Exit × Act)} (h : CodeOK P N rec) {tab : TabF} (htab : ∀ β o xs v ρ, tab o xs = some v → PW β xs (o.op.operands.toList.map ρ) → ∃ v', VR β v v' ∧ ∀ w, (execOp ρ o).run P w = .ok (.value v') w) {sp : SpF} (hsp : SpOK P sp) : CallOK P N ⟨fun k args => withSp P sp rec k args, tab⟩ where
  tab := htab
  loc := withSp_loc hsp.loc h.loc
  fn := fun k args c hh o he => by
    simp only [withSp] at he
    cases hm : sp k args with
    | some m => exact hsp.fn _ _ _ hm
    | none => rw [hm] at he; exact (h.call0 hnn htab).fn k args c hh o he
  run := fun k args args' β c hh o w he hp hs hN hf => by
    simp only [withSp] at he
    cases hm : sp k args with
    | some m => rw [hm] at he; exact hsp.run _ _ _ hm N args' β c hh o w he hp hs hN hf
    | none => rw [hm] at he; exact (h.call0 hnn htab).run k args args' β c hh o w he hp hs hN hf
theorem rounds_ok [Env] {rec : Code → Act → Comp (Exit × Act)} (h : CodeOK P N rec) {b : Code} : ∀ (n : Nat) (a ar : Act) (c : Nat) (hh : Tr) (o : Out (Exit × Act)) (w : World) (β : Mp), rounds (rec b) n a c hh = some o → Sim P N β hh w → N ≤ w.heap.size → (∀ i, c ≤ i → i < o.c → β i = none) → AR β a ar → ∀ Q : Exit → Act → World → Prop,
    (∀ ar' w' β', Ext c o.c β β' → Sim P N β' o.h w' → AR β' o.a.2 ar' → Keep N w w' → Q o.a.1 ar' w') → ∃ m, Code.rounds P b Q m ar w
  | 0, a, ar, c, hh, o, w, β, he, _, _, _, _, Q, _ => by cases he
  | n + 1, a, ar, c, hh, o, w, β, he, hs, hN, hf, ha, Q, hQ => by
    obtain ⟨o1, q1, ho1, hq1, rfl⟩ := bind_some he
    have c1 := (h.loc _ _ _ _ _ ho1).1
    rcases br_some hq1 with ⟨hn, hq⟩ | ⟨hn, hq⟩
    · have c2 := (rounds_loc (fun a => h.loc b a) n _ _ _ _ hq).1
      -- the number of rounds is at most n + 1
      have mono : ∀ m a' w', Code.rounds P b Q m a' w' → ∀ d, Code.rounds P b Q (m + d) a' w' := by
        intro m
        induction m with
        | zero => intro a' w' hr; exact hr.elim
        | succ m ih =>
          intro a' w' hr d
          rw [show m + 1 + d = (m + d) + 1 from by omega, rounds_succ]
          rw [rounds_succ] at hr
          refine wp_mono hr fun e a1 w1 he1 => ?_
          cases e with
          | normal => exact ih a1 w1 he1 d
          | _ => exact he1
      have bound : ∀ (n : Nat) (a ar : Act) (c : Nat) (hh : Tr) (o : Out (Exit × Act)) (w : World) (β : Mp), rounds (rec b) n a c hh = some o → Sim P N β hh w → N ≤ w.heap.size → (∀ i, c ≤ i → i < o.c → β i = none) → AR β a ar → ∀ Q : Exit → Act → World → Prop,
          (∀ ar' w' β', Ext c o.c β β' → Sim P N β' o.h w' → AR β' o.a.2 ar' → Keep N w w' → Q o.a.1 ar' w') → Code.rounds P b Q n ar w := by
        intro n
        induction n with
        | zero => intro a ar c hh o w β he; cases he
        | succ n ih =>
          intro a ar c hh o w β he hs hN hf ha Q hQ
          obtain ⟨o1, q1, ho1, hq1, rfl⟩ := bind_some he
          have c1 := (h.loc _ _ _ _ _ ho1).1
          rw [rounds_succ]
          rcases br_some hq1 with ⟨hn, hq⟩ | ⟨hn, hq⟩
          · have c2 := (rounds_loc (fun a => h.loc b a) n _ _ _ _ hq).1
            refine h.run _ _ _ _ _ _ w β ho1 hs hN (fun i h1 h2 => hf i h1 (by simp only; omega)) ha _ fun ar' w' β' e1 e2 e3 e4 => ?_
            cases he1 : o1.a.1 with
            | normal =>
              exact ih _ ar' _ _ _ w' β' hq e2 (Nat.le_trans hN e4.size) (fresh_left e1 hf c1) e3 Q fun ar'' w'' β'' k1 k2 k3 k4 => hQ ar'' w'' β'' (e1.trans k1 c1 c2) k2 k3 (e4.trans k4)
            | _ => rw [he1] at hn; cases hn
          · simp only [ret, Option.some.injEq] at hq; subst hq
            refine h.run _ _ _ _ _ _ w β ho1 hs hN hf ha _ fun ar' w' β' e1 e2 e3 e4 => ?_
            have := hQ ar' w' β' e1 e2 e3 e4
            simp only at this
            cases he1 : o1.a.1 with
            | normal => rw [he1] at hn; cases hn
            | _ => rw [he1] at this; exact this
      exact ⟨n + 1, bound (n + 1) a ar c hh _ w β he hs hN hf ha Q hQ⟩
    · simp only [ret, Option.some.injEq] at hq; subst hq
      refine ⟨1, ?_⟩
      rw [rounds_succ]
      refine h.run _ _ _ _ _ _ w β ho1 hs hN hf ha _ fun ar' w' β' e1 e2 e3 e4 => ?_
      have := hQ ar' w' β' e1 e2 e3 e4
      simp only at this
      cases he1 : o1.a.1 with
      | normal => rw [he1] at hn; cases hn
      | _ => rw [he1] at this; exact this
theorem evCode_ok [Env] {tab : TabF} {sp : SpF} (hsp : SpOK P sp) (htab : ∀ β o xs v ρ, tab o xs = some v → PW β xs (o.op.operands.toList.map ρ) → ∃ v', VR β v v' ∧ ∀ w, (execOp ρ o).run P w = .ok (.value v') w) (hm : P.follows .mixedOrders = true) (hnn : ∀ (k : Nat) (fn : Func), P.funcs[k]? = some fn → (fn.name == "runtime.NumGoroutine") = false) : ∀ (f : Nat), CodeOK P N (evCode P tab sp f)
  | 0 => ⟨evCode_loc hsp.loc 0, fun code a ar c h o w β he => by cases he⟩
  | f + 1 => by
    have IH := evCode_ok hsp htab hm hnn f
    have IC := IH.call hnn htab hsp
    refine ⟨evCode_loc hsp.loc (f + 1), fun code a ar c h o w β he hs hN hf ha Q hQ => ?_⟩
    cases code with
    | skip =>
      simp only [evCode, ret, Option.some.injEq] at he; subst he
      exact wp_skip (hQ ar w β (Ext.refl _ _ _) hs ha (Keep.refl _ _))
    | label l =>
      simp only [evCode, ret, Option.some.injEq] at he; subst he
      exact wp_label (hQ ar w β (Ext.refl _ _ _) hs ha (Keep.refl _ _))
    | ret =>
      simp only [evCode, ret, Option.some.injEq] at he; subst he
      exact wp_ret (hQ ar w β (Ext.refl _ _ _) hs ha (Keep.refl _ _))
    | exit id =>
      simp only [evCode, ret, Option.some.injEq] at he; subst he
      exact wp_exit (hQ ar w β (Ext.refl _ _ _) hs ha (Keep.refl _ _))
    | region id ops draw =>
      simp only [evCode] at he
      obtain ⟨o1, q1, ho1, hq1, rfl⟩ := bind_some he
      simp only [ret, Option.some.injEq] at hq1; subst hq1
      cases draw with
      | false =>
        refine wp_region ?_
        rw [List.range_eq_range']
        have := seqOps_ok (Q := Q) IC ops.toList 0 a ar c h w β o1 rfl ho1 hs ha hN hf hQ
        simpa using this
      | true =>
        refine wp_region_any hm ?_
        obtain ⟨A, C, H, p, R, e1, e2, e3, T, e4, e5, e6, _⟩ := anyOps_trace (P := P) ops.toList 0 [] a c h o1 (fun j => ⟨j, 0, 0, 0, 0, 0⟩) rfl ho1 (fun j hj => by omega) (fun j hj => by omega) (fun r hr => by cases hr)
        simp only [Nat.zero_add, Array.length_toList] at T e4 e5 e6
        have hlo := (anyOps_loc (P := P) IC.loc ops.toList 0 [] a c h o1 ho1).1
        refine any_loop (β0 := β) (w0 := w) IC T rfl (by rw [e2, e5]; exact hf) ?_ (by rw [e2, e4, e5, e6]; exact hQ) ops.size (Array.replicate ops.size false) a ar h { w with drawn := w.drawn + 1 } β (by simp) ?_ ?_ ?_ ?_ (by rw [e1]) (by rw [e1]) (hs.heap rfl) ha (Keep.drew w) hN (fun _ _ h => h) (fun i hi => absurd rfl hi)
        · intro k
          induction k with
          | zero => intro _; rfl
          | succ k ih =>
            intro hk
            obtain ⟨o', t1, t2, t3, _⟩ := T.step k (Nat.zero_le _) (by omega)
            rw [t3, put_defers]
            exact ih (by omega)
        · exact Nat.le_trans List.countP_le_length (by simp)
        · intro k o' e hk _ _ hl
          exfalso
          have hlt : k < ops.size := (Array.getElem?_eq_some_iff.1 hk).1
          simp [Array.getD, hlt] at hl
        · refine Good.start (T.slots) (fun m hm hl => ?_) (fun t => by rw [e1])
          simp [Array.getD, hm] at hl
        · refine Good.start (T.heap IC.loc) (fun m hm hl => ?_) (fun i => by rw [e3])
          simp [Array.getD, hm] at hl
    | seq x y =>
      simp only [evCode] at he
      obtain ⟨o1, q1, ho1, hq1, rfl⟩ := bind_some he
      have c1 := (IH.loc _ _ _ _ _ ho1).1
      refine wp_seq ?_
      rcases br_some hq1 with ⟨hn, hq⟩ | ⟨hn, hq⟩
      · have c2 := (IH.loc _ _ _ _ _ hq).1
        refine IH.run _ _ _ _ _ _ w β ho1 hs hN (fun i h1 h2 => hf i h1 (by simp only; omega)) ha _ fun ar' w' β' e1 e2 e3 e4 => ?_
        cases he1 : o1.a.1 with
        | normal =>
          exact IH.run _ _ _ _ _ _ w' β' hq e2 (Nat.le_trans hN e4.size) (fresh_left e1 hf c1) e3 Q fun ar'' w'' β'' k1 k2 k3 k4 => hQ ar'' w'' β'' (e1.trans k1 c1 c2) k2 k3 (e4.trans k4)
        | _ => rw [he1] at hn; cases hn
      · simp only [ret, Option.some.injEq] at hq; subst hq
        refine IH.run _ _ _ _ _ _ w β ho1 hs hN hf ha _ fun ar' w' β' e1 e2 e3 e4 => ?_
        have := hQ ar' w' β' e1 e2 e3 e4
        simp only at this
        cases he1 : o1.a.1 with
        | normal => rw [he1] at hn; cases hn
        | _ => rw [he1] at this; exact this
    | cond cc x y =>
      simp only [evCode] at he
      obtain ⟨o1, q1, ho1, hq1, rfl⟩ := bind_some he
      obtain ⟨b, hb, rfl⟩ := ofOpt_some ho1
      have hc : ar.eval cc = .bool b := by
        unfold condOf at hb
        split at hb
        · rename_i hok
          split at hb
          · rename_i b' hb'
            simp only [Option.some.injEq] at hb; subst hb
            have := ha.eval hok
            rw [hb'] at this
            exact this.bool_eq
          · cases hb
        · cases hb
      rcases br_some hq1 with ⟨rfl, hq⟩ | ⟨rfl, hq⟩
      · refine wp_cond hc ?_
        simp only [if_true]
        exact IH.run _ _ _ _ _ _ w β hq hs hN hf ha Q hQ
      · refine wp_cond hc ?_
        simp only [Bool.false_eq_true, if_false]
        exact IH.run _ _ _ _ _ _ w β hq hs hN hf ha Q hQ
    | block id b =>
      simp only [evCode] at he
      obtain ⟨o1, q1, ho1, hq1, rfl⟩ := bind_some he
      simp only [ret, Option.some.injEq] at hq1; subst hq1
      refine wp_block ?_
      refine IH.run _ _ _ _ _ _ w β ho1 hs hN hf ha _ fun ar' w' β' e1 e2 e3 e4 => ?_
      have := hQ ar' w' β' e1 e2 e3 e4
      simp only at this
      cases he1 : o1.a.1 with
      | exit i =>
        rw [he1] at this
        simp only [leave] at this
        simp only [Exit.inBlock]
        split at this
        · rename_i hb
          rw [if_pos (Nat.of_beq hb)]; exact this
        · rename_i hb
          rw [if_neg (fun e => by subst e; simp at hb)]; exact this
      | _ => rw [he1] at this; exact this
    | loop b =>
      simp only [evCode] at he
      obtain ⟨m, hm'⟩ := rounds_ok IH many a ar c h o w β he hs hN hf ha Q hQ
      exact wp_loop_rounds m hm'
    | scope b =>
      simp only [evCode] at he
      obtain ⟨o1, q1, ho1, hq1, rfl⟩ := bind_some he
      obtain ⟨hg, hq1⟩ := gd_some hq1
      simp only [ret, Option.some.injEq] at hq1; subst hq1
      refine wp_scope_straight ?_
      refine IH.run _ _ _ _ _ _ w β ho1 hs hN hf ha _ fun ar' w' β' e1 e2 e3 e4 => ?_
      have := hQ ar' w' β' e1 e2 e3 e4
      simp only at this
      cases he1 : o1.a.1 with
      | goto l => rw [he1] at hg; cases hg
      | _ => rw [he1] at this; exact this
    | _ => cases he
def says : Option (Out Value) → Option Bool
  | some o => match o.a with
    | .bool b => some b
    | _ => none
  | none => none
theorem Sim.nothing [Env] (P : Program) (N : Nat) (w : World) : Sim P N (fun _ => none) .lf w :=
  ⟨fun i o hi => (by rw [Tr.get_lf] at hi; cases hi), fun i j o o' I J hi => (by rw [Tr.get_lf] at hi; cases hi)⟩
/-- THE LAW: what the small memory's run comes to, the call comes to. -/
theorem callsT [Env] {tab : TabF} {sp : SpF} (hsp : SpOK P sp) (htab : ∀ β o xs v ρ, tab o xs = some v → PW β xs (o.op.operands.toList.map ρ) → ∃ v', VR β v v' ∧ ∀ w, (execOp ρ o).run P w = .ok (.value v') w)
    (hm : P.follows .mixedOrders = true) (hnn : ∀ (k : Nat) (fn : Func), P.funcs[k]? = some fn → (fn.name == "runtime.NumGoroutine") = false) {f : Nat} {k : FuncId} {args args' : List Value} {b : Bool}
    (h : says (evCall P tab sp f k args 0 .lf) = some b) (hargs : PW (fun _ => none) args args') (w : World) :
    Calls P k args'.toArray w (fun e w' => e = .returned (.bool b) ∧ Keep w.heap.size w w') := by
  unfold says at h
  split at h
  · rename_i o he
    split at h
    · rename_i b' ho
      simp only [Option.some.injEq] at h; subst h
      refine (((evCode_ok hsp htab hm hnn f).call hnn htab hsp).run k args args' _ 0 .lf o w he hargs (Sim.nothing P w.heap.size w) (Nat.le_refl _) (fun _ _ _ => rfl)).mono ?_
      rintro e w' ⟨v', β', rfl, e1, e2, e3, e4⟩
      rw [ho] at e3
      exact ⟨by rw [e3.bool_eq], e4⟩
    · cases h
  · cases h
def noTab : TabF := fun _ _ => none
def noSp : SpF := fun _ _ => none
theorem noSp_ok [Env] : SpOK P noSp := ⟨fun _ _ _ h => (by cases h), fun _ _ _ h => (by cases h), fun _ _ _ h => (by cases h)⟩
theorem Keep.sub {N M : Nat} {w w' : World} (h : Keep M w w') (hN : N ≤ M) : Keep N w w' := ⟨h.os, h.tape, h.output, h.size, fun k hk => h.block k (by omega)⟩
theorem Sim.stay [Env] {h : Tr} {w w' : World} (hs : Sim P N β h w) (hk : Keep w.heap.size w w') : Sim P N β h w' :=
  ⟨fun i o hi => let ⟨I, h1, h2, h3, h4⟩ := hs.obj i o hi; ⟨I, h1, h2, Nat.lt_of_lt_of_le h3 hk.size, h4.keep (fun _ _ h => h) (hk.block _ h3)⟩, hs.inj⟩
/-- A call of which is known what it yields. -/
theorem spVal [Env] {k : FuncId} {args : List Value} {v : Value} (h : ∀ (β : Mp) (args' : List Value), PW β args args' → ∀ w, Calls P k args'.toArray w (fun e w' => ∃ v', e = .returned v' ∧ VR β v v' ∧ Keep w.heap.size w w'))
    (N : Nat) (args' : List Value) (β : Mp) (c : Nat) (hh : Tr) (o : Out Value) (w : World) (he : ret v c hh = some o) (hp : PW β args args') (hs : Sim P N β hh w) (hN : N ≤ w.heap.size) :
    Calls P k args'.toArray w (fun e w' => ∃ v' β', e = .returned v' ∧ Ext c o.c β β' ∧ Sim P N β' o.h w' ∧ VR β' o.a v' ∧ Keep N w w') := by
  simp only [ret, Option.some.injEq] at he; subst he
  refine (h β args' hp w).mono ?_
  rintro e w' ⟨v', rfl, h1, h2⟩
  exact ⟨v', β, rfl, Ext.refl _ _ _, hs.stay h2, h1, h2.sub hN⟩
end Go.Proofs.Ytdpmjghdmpaehaa.ev
