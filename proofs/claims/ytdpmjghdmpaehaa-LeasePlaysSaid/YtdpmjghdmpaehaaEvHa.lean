/-
  Numbers in memory that are added to, read and exchanged in one step (sync/atomic). Conditions: none.
-/
import Derived.Test.YtdpmjghdmpaehaaEvHi
import Derived.KernelRfl
namespace Go.Proofs.Ytdpmjghdmpaehaa.ev
set_option linter.unusedVariables false
set_option linter.unusedSimpArgs false
variable {P : Program} {N : Nat} {β : Mp}
inductive At where
  | add
  | load
  | cas
  | esc
/-- Which of them a function without a body is. -/
def atOf (P : Program) (k : FuncId) : Option At :=
  match P.funcs[k]? with
  | some fn => match fn.body.isNone && (!(fn.name == "runtime.NumGoroutine") && (Extern.findNext fn).isNone) with
    | true => match fn.name == "sync/atomic.AddInt64" with
      | true => some .add
      | false => match fn.name == "sync/atomic.LoadInt64" with
        | true => some .load
        | false => match fn.name == "sync/atomic.CompareAndSwapInt64" with
          | true => some .cas
          | false => match fn.name == "internal/abi.NoEscape" with
            | true => some .esc
            | false => none
    | false => none
  | none => none
def cellI (o : Nat) : Ao → Option Int
  | .row C _ _ => match C.get o with
    | some (.int .i64 n) => some n
    | _ => none
  | _ => none
def evAt : At → List Value → Comp Value
  | .load, [.pointer (some ⟨i, o, none⟩)] => bind (rd i) fun ao => ofOpt (match cellI o ao with | some n => some (.int .i64 n) | none => none)
  | .add, [.pointer (some ⟨i, o, none⟩), .int .i64 b] => bind (rd i) fun ao => bind (ofOpt (cellI o ao)) fun a =>
      bind (ofOpt (layOver o [.int .i64 (IntKind.i64.wrap (a + b))] ao)) fun x => bind (wr i (some x)) fun _ => ret (.int .i64 (IntKind.i64.wrap (a + b)))
  | .cas, [.pointer (some ⟨i, o, none⟩), .int .i64 x, .int .i64 y] => bind (rd i) fun ao => bind (ofOpt (cellI o ao)) fun a =>
      br (a == x) (bind (ofOpt (layOver o [.int .i64 y] ao)) fun z => bind (wr i (some z)) fun _ => ret (.bool true)) (ret (.bool false))
  | .esc, [v] => ret v
  | _, _ => fail
def atFn : At → Array Value → Sem Value
  | .add => Extern.Atomic.update (Op.intArith .add) .i64 true
  | .load => Extern.Atomic.loadT (.int .i64)
  | .cas => Extern.Atomic.casT (.int .i64)
  | .esc => Extern.AbiNoEscape.same
theorem find_add {fn : Func} (h : fn.name = "sync/atomic.AddInt64") : Extern.find fn = some (Extern.Atomic.update (Op.intArith .add) .i64 true) := by
  have e1 : (Extern.allGenericRows.lookup "sync/atomic.AddInt64").isNone = true := by kernel_rfl
  have e2 : (Extern.allTypedRows.lookup "sync/atomic.AddInt64").isNone = true := by kernel_rfl
  have e3 : Extern.allRows.lookup "sync/atomic.AddInt64" = some (Extern.Atomic.update (Op.intArith .add) .i64 true) := by kernel_rfl
  unfold Extern.find
  simp only [h, Option.isNone_iff_eq_none.1 e1, Option.isNone_iff_eq_none.1 e2, e3]
  rfl
theorem find_load {fn : Func} (h : fn.name = "sync/atomic.LoadInt64") : Extern.find fn = some (Extern.Atomic.loadT (.int .i64)) := by
  have e1 : (Extern.allGenericRows.lookup "sync/atomic.LoadInt64").isNone = true := by kernel_rfl
  have e2 : (Extern.allTypedRows.lookup "sync/atomic.LoadInt64").isNone = true := by kernel_rfl
  have e3 : Extern.allRows.lookup "sync/atomic.LoadInt64" = some (Extern.Atomic.loadT (.int .i64)) := by kernel_rfl
  unfold Extern.find
  simp only [h, Option.isNone_iff_eq_none.1 e1, Option.isNone_iff_eq_none.1 e2, e3]
  rfl
theorem find_cas {fn : Func} (h : fn.name = "sync/atomic.CompareAndSwapInt64") : Extern.find fn = some (Extern.Atomic.casT (.int .i64)) := by
  have e1 : (Extern.allGenericRows.lookup "sync/atomic.CompareAndSwapInt64").isNone = true := by kernel_rfl
  have e2 : (Extern.allTypedRows.lookup "sync/atomic.CompareAndSwapInt64").isNone = true := by kernel_rfl
  have e3 : Extern.allRows.lookup "sync/atomic.CompareAndSwapInt64" = some (Extern.Atomic.casT (.int .i64)) := by kernel_rfl
  unfold Extern.find
  simp only [h, Option.isNone_iff_eq_none.1 e1, Option.isNone_iff_eq_none.1 e2, e3]
  rfl
theorem find_esc {fn : Func} (h : fn.name = "internal/abi.NoEscape") : Extern.find fn = some Extern.AbiNoEscape.same := by
  have e1 : (Extern.allGenericRows.lookup "internal/abi.NoEscape").isNone = true := by kernel_rfl
  have e2 : (Extern.allTypedRows.lookup "internal/abi.NoEscape").isNone = true := by kernel_rfl
  have e3 : Extern.allRows.lookup "internal/abi.NoEscape" = some Extern.AbiNoEscape.same := by kernel_rfl
  unfold Extern.find
  simp only [h, Option.isNone_iff_eq_none.1 e1, Option.isNone_iff_eq_none.1 e2, e3]
  rfl
theorem cellI_ok [Env] {w : World} {I : Im} {o : Nat} {ao : Ao} {n : Int} (h : cellI o ao = some n) (hob : ObR P β w I ao) : w.cell? ⟨I.blk, I.base + o, none⟩ = some (.int .i64 n) ∧ w.frozen? ⟨I.blk, I.base + o, none⟩ = false ∧ ∃ C te fr, w.heap[I.blk]? = some (.cells C te fr) := by
  cases ao with
  | map es clk => cases h
  | iter q0 p0 => cases h
  | mapIt q0 q1 q2 q3 => cases h
  | row C t g =>
    obtain ⟨hok, vs, hpw, hlen, hra, hth, _, _, hfz⟩ := hob
    simp only [cellI] at h
    split at h
    · rename_i m hm
      cases h
      have hns : C.isSym = false := by
        cases C with
        | sym a q d m =>
          simp only [Cs.get] at hm
          split at hm <;> cases hm
        | _ => rfl
      have hth := nosym hns hth
      obtain ⟨C', te, fr, hC, _⟩ := nosym hns hfz
      have hm := Cs.get_ok C _ _ hok hm
      obtain ⟨v', h1, h2⟩ := hpw.get hm
      have ho : o < I.n := by rw [← hlen]; exact (List.getElem?_eq_some_iff.1 hm).1
      refine ⟨by rw [hra o v' h1, h2.int_eq], (hth o (by omega)).2, C', te, fr, hC⟩
    · cases h
theorem loadT_one (t : Extern.Atomic.T) (a : Value) : Extern.Atomic.loadT t #[a] = (do Extern.Atomic.read t (← asAddr a)) := rfl
theorem storeT_two (a v : Value) : Extern.Atomic.storeT #[a, v] = (do store (← asAddr a) v .atomic; pure Extern.Atomic.none_) := rfl
theorem update_two (op : IntKind → Int → Int → Sem Value) (k : IntKind) (r : Bool) (p y : Value) : Extern.Atomic.update op k r #[p, y] = (do
    let a ← asAddr p
    let old ← Extern.Atomic.read (.int k) a
    let new ← op k (← asInt old) (← asInt y)
    store a new .atomic
    pure (if r then new else old)) := rfl
theorem casT_int (p : Value) (k : IntKind) (x : Int) (new : Value) : Extern.Atomic.casT (.int .i64) #[p, .int k x, new] = (do
    let a ← asAddr p
    if ← Extern.Atomic.touchesFrozen a then unsupported (.unsafePointer "a write to bytes that a string shares")
    let eq ← match Extern.Atomic.T.int .i64, ← Extern.Atomic.read (.int .i64) a, Value.int k x with
      | _, .int _ x, .int _ y => pure (x == y)
      | .ptr, .pointer x, .pointer y => samePointer x y
      | .int _, .pointer (some _), .int _ 0 | .int _, .int _ 0, .pointer (some _) => pure false
      | .int _, .pointer (some _), _ | .int _, _, .pointer (some _) => unsupported .addressObserved
      | _, _, _ => stuck "atomic.CompareAndSwap: old is no T"
    if eq then store a new .atomic
    pure (.bool eq)) := rfl
theorem PW.uno [Env] {v : Value} {l : List Value} (h : PW β [v] l) : ∃ v', l = [v'] ∧ VR β v v' := by
  obtain ⟨a', r', rfl, h1, h2⟩ := h.cons_left
  rw [h2.nil_left]; exact ⟨a', rfl, h1⟩
theorem PW.duo [Env] {v u : Value} {l : List Value} (h : PW β [v, u] l) : ∃ v' u', l = [v', u'] ∧ VR β v v' ∧ VR β u u' := by
  obtain ⟨a', r', rfl, h1, h2⟩ := h.cons_left
  obtain ⟨b', rfl, h3⟩ := h2.uno
  exact ⟨a', b', rfl, h1, h3⟩
theorem PW.tre [Env] {v u t : Value} {l : List Value} (h : PW β [v, u, t] l) : ∃ v' u' t', l = [v', u', t'] ∧ VR β v v' ∧ VR β u u' ∧ VR β t t' := by
  obtain ⟨a', r', rfl, h1, h2⟩ := h.cons_left
  obtain ⟨b', c', rfl, h3, h4⟩ := h2.duo
  exact ⟨a', b', c', rfl, h1, h3, h4⟩
theorem evAt_ok [Env] {a : At} {xs xs' : List Value} {e : Array Value → Sem Value} (hx : PW β xs xs') (he : e = atFn a) : RunS P N β (evAt a xs) (e xs'.toArray) := by
  unfold evAt
  split
  · subst he
    obtain ⟨p', rfl, hp⟩ := hx.uno
    cases hp with
    | @ptr i I o hβ =>
      refine RunS.rd fun ao c h q w hq hao hs hN hfr => ?_
      obtain ⟨r, hr, rfl⟩ := ofOpt_some hq
      obtain ⟨I', hI, hN', hlt, hob⟩ := hs.obj _ ao hao
      rw [hβ] at hI; cases hI
      split at hr
      · rename_i n hn
        cases hr
        obtain ⟨h1, h2, C, te, fr, h3⟩ := cellI_ok hn hob
        refine ⟨_, w, β, ?_, Ext.refl _ _ _, hs, .int .i64 n, Keep.refl _ _⟩
        unfold atFn
        show (Extern.Atomic.loadT (.int .i64) #[_]).run P w = _
        rw [loadT_one]
        simp [asAddr, Extern.Atomic.read, load, Sem.run, h1]
      · cases hr
  · subst he
    obtain ⟨p', u', rfl, hp, hu⟩ := hx.duo
    rw [hu.int_eq]
    cases hp with
    | @ptr i I o hβ =>
      refine RunS.rd fun ao c h q w hq hao hs hN hfr => ?_
      obtain ⟨o1, q1, ho1, hq1, rfl⟩ := bind_some hq
      obtain ⟨n, hn, rfl⟩ := ofOpt_some ho1
      obtain ⟨o2, q2, ho2, hq2, rfl⟩ := bind_some hq1
      obtain ⟨x, hx, rfl⟩ := ofOpt_some ho2
      obtain ⟨o3, q3, ho3, hq3, rfl⟩ := bind_some hq2
      obtain ⟨h', rfl, hset⟩ := wr_some ho3
      simp only [ev.ret, Option.some.injEq] at hq3; subst hq3
      obtain ⟨I', hI, hN', hlt, hob⟩ := hs.obj _ ao hao
      rw [hβ] at hI; cases hI
      obtain ⟨h1, h2, C, te, fr, h3⟩ := cellI_ok hn hob
      obtain ⟨l1, l2, l3, l4⟩ := layOver_ok hs hao hβ hx (PW.cons (.int .i64 _) (PW.nil β)) hset
      refine ⟨_, _, β, ?_, Ext.refl _ _ _, l3, .int .i64 _, l4⟩
      unfold atFn
      show (Extern.Atomic.update (Op.intArith .add) .i64 true #[_, _]).run P w = _
      rw [update_two]
      simp [asAddr, asInt, asIntOf, Extern.Atomic.read, load, store, Sem.run, h1, h2, Op.intArith, World.setCells]
  · subst he
    obtain ⟨p', u', t', rfl, hp, hu, ht⟩ := hx.tre
    rw [hu.int_eq, ht.int_eq]
    cases hp with
    | @ptr i I o hβ =>
      refine RunS.rd fun ao c h q w hq hao hs hN hfr => ?_
      obtain ⟨o1, q1, ho1, hq1, rfl⟩ := bind_some hq
      obtain ⟨n, hn, rfl⟩ := ofOpt_some ho1
      obtain ⟨I', hI, hN', hlt, hob⟩ := hs.obj _ ao hao
      rw [hβ] at hI; cases hI
      obtain ⟨h1, h2, C, te, fr, h3⟩ := cellI_ok hn hob
      rcases br_some hq1 with ⟨hb, hq1⟩ | ⟨hb, hq1⟩
      · obtain ⟨o2, q2, ho2, hq2, rfl⟩ := bind_some hq1
        obtain ⟨x, hx, rfl⟩ := ofOpt_some ho2
        obtain ⟨o3, q3, ho3, hq3, rfl⟩ := bind_some hq2
        obtain ⟨h', rfl, hset⟩ := wr_some ho3
        simp only [ev.ret, Option.some.injEq] at hq3; subst hq3
        obtain ⟨l1, l2, l3, l4⟩ := layOver_ok hs hao hβ hx (PW.cons (.int .i64 _) (PW.nil β)) hset
        refine ⟨_, _, β, ?_, Ext.refl _ _ _, l3, .bool true, l4⟩
        unfold atFn
        show (Extern.Atomic.casT (.int .i64) #[_, _, _]).run P w = _
        rw [casT_int]
        simp [asAddr, Extern.Atomic.touchesFrozen, shape, World.shape?, viewAt, frozen, Extern.Atomic.read, load, store, Sem.run, h1, h2, h3, hb, World.setCells]
        intro hne; exact absurd (by simpa using hb) hne
      · simp only [ev.ret, Option.some.injEq] at hq1; subst hq1
        refine ⟨_, w, β, ?_, Ext.refl _ _ _, hs, .bool false, Keep.refl _ _⟩
        unfold atFn
        show (Extern.Atomic.casT (.int .i64) #[_, _, _]).run P w = _
        rw [casT_int]
        simp [asAddr, Extern.Atomic.touchesFrozen, shape, World.shape?, viewAt, frozen, Extern.Atomic.read, load, store, Sem.run, h1, h2, h3, hb]
        intro he; subst he; simp at hb
  · subst he
    obtain ⟨p', rfl, hp⟩ := hx.uno
    exact RunS.pure hp (fun w => rfl)
  · exact RunS.fail
theorem run_standIn {k : FuncId} {fn : Func} {e : Array Value → Sem Value} (h1 : P.funcs[k]? = some fn) (h2 : (fn.name == "runtime.NumGoroutine") = false) (h3 : fn.body.isNone = true) (h4 : Extern.findNext fn = none) (h5 : Extern.find fn = some e) {args : Array Value} {w w' : World} {v : Value} (hr : (e args).run P w = .ok v w') :
    (callFunc k args).run P w = .ok (.value v) w' := by
  simp only [callFunc, Sem.run_bind]
  simp [program, Sem.run, h1, h2, h3, h4, h5, mark, hr, Result.andThen]
end Go.Proofs.Ytdpmjghdmpaehaa.ev
