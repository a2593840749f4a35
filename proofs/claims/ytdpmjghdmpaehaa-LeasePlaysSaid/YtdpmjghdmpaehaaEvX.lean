/-
  The same computations over slots in a tree: quicker for the kernel, and they come to the same. Conditions: none.
-/
import Derived.Test.YtdpmjghdmpaehaaEvM
namespace Go.Proofs.Ytdpmjghdmpaehaa.ev
set_option linter.unusedVariables false
set_option linter.unusedSimpArgs false
variable {P : Program}
inductive Vt where
  | lf
  | nd (v : Value) (l r : Vt)
def optMap {α β : Type} (f : α → β) (o : Option α) : Option β := Option.casesOn o none (fun y => some (f y))
def Vt.get : Vt → Nat → Value
  | .lf => fun _ => undef
  | .nd v l r => fun i => Nat.casesOn i v fun j => Nat.casesOn (j % 2) (l.get (j / 2)) (fun _ => r.get (j / 2))
def Vt.set : Vt → Nat → Value → Option Vt
  | .lf => fun _ _ => none
  | .nd v l r => fun i x => Nat.casesOn i (some (.nd x l r)) fun j => Nat.casesOn (j % 2) (optMap (fun l' => Vt.nd v l' r) (l.set (j / 2) x)) (fun _ => optMap (fun r' => Vt.nd v l r') (r.set (j / 2) x))
theorem sel {α : Type} (n : Nat) (a b : α) : (Nat.casesOn (motive := fun _ => α) n a (fun _ => b)) = if n = 0 then a else b := by
  cases n with
  | zero => exact (if_pos rfl).symm
  | succ n => exact (if_neg (by omega)).symm
theorem Vt.get_lf (i : Nat) : Vt.lf.get i = undef := rfl
theorem Vt.get_zero {v : Value} {l r : Vt} : (Vt.nd v l r).get 0 = v := rfl
theorem Vt.get_even {v : Value} {l r : Vt} {i : Nat} (h : i % 2 = 0) : (Vt.nd v l r).get (i + 1) = l.get (i / 2) := by
  show (Nat.casesOn (motive := fun _ => Value) (i % 2) (l.get (i / 2)) (fun _ => r.get (i / 2))) = _
  rw [sel, if_pos h]
theorem Vt.get_odd {v : Value} {l r : Vt} {i : Nat} (h : i % 2 = 1) : (Vt.nd v l r).get (i + 1) = r.get (i / 2) := by
  show (Nat.casesOn (motive := fun _ => Value) (i % 2) (l.get (i / 2)) (fun _ => r.get (i / 2))) = _
  rw [sel, if_neg (by omega)]
theorem Vt.set_lf (i : Nat) (x : Value) : Vt.lf.set i x = none := rfl
theorem Vt.set_zero {v x : Value} {l r : Vt} : (Vt.nd v l r).set 0 x = some (.nd x l r) := rfl
theorem optMap_eq {α β : Type} (f : α → β) (o : Option α) : optMap f o = (match o with | some y => some (f y) | none => none) := by cases o <;> rfl
theorem Vt.set_even {v x : Value} {l r : Vt} {i : Nat} (h : i % 2 = 0) : (Vt.nd v l r).set (i + 1) x = (match l.set (i / 2) x with | some l' => some (.nd v l' r) | none => none) := by
  show (Nat.casesOn (motive := fun _ => Option Vt) (i % 2) (optMap (fun l' => Vt.nd v l' r) (l.set (i / 2) x)) (fun _ => optMap (fun r' => Vt.nd v l r') (r.set (i / 2) x))) = _
  rw [sel, if_pos h]
  cases l.set (i / 2) x <;> rfl
theorem Vt.set_odd {v x : Value} {l r : Vt} {i : Nat} (h : i % 2 = 1) : (Vt.nd v l r).set (i + 1) x = (match r.set (i / 2) x with | some r' => some (.nd v l r') | none => none) := by
  show (Nat.casesOn (motive := fun _ => Option Vt) (i % 2) (optMap (fun l' => Vt.nd v l' r) (l.set (i / 2) x)) (fun _ => optMap (fun r' => Vt.nd v l r') (r.set (i / 2) x))) = _
  rw [sel, if_neg (by omega)]
  cases r.set (i / 2) x <;> rfl
theorem Vt.get_set : ∀ (t : Vt) (i : Nat) (x : Value) (t' : Vt), t.set i x = some t' → ∀ j, t'.get j = if j = i then x else t.get j
  | .lf, i, x, t', h, j => by rw [Vt.set_lf] at h; cases h
  | .nd v l r, 0, x, t', h, j => by
    rw [Vt.set_zero] at h
    simp only [Option.some.injEq] at h; subst h
    cases j with
    | zero => rw [Vt.get_zero, if_pos rfl]
    | succ j =>
      rw [if_neg (by omega)]
      rcases Nat.mod_two_eq_zero_or_one j with hj | hj
      · rw [Vt.get_even hj, Vt.get_even hj]
      · rw [Vt.get_odd hj, Vt.get_odd hj]
  | .nd v l r, i + 1, x, t', h, j => by
    rcases Nat.mod_two_eq_zero_or_one i with hi | hi
    · rw [Vt.set_even hi] at h
      split at h
      · rename_i t hs
        have ih := Vt.get_set l (i / 2) x t hs
        simp only [Option.some.injEq] at h; subst h
        cases j with
        | zero => rw [Vt.get_zero, Vt.get_zero, if_neg (by omega)]
        | succ j =>
          rcases Nat.mod_two_eq_zero_or_one j with hj | hj
          · rw [Vt.get_even hj, Vt.get_even hj, ih]
            have : (j / 2 = i / 2) ↔ (j + 1 = i + 1) := by omega
            simp only [this]
          · rw [Vt.get_odd hj, Vt.get_odd hj, if_neg (by omega)]
      · cases h
    · rw [Vt.set_odd hi] at h
      split at h
      · rename_i t hs
        have ih := Vt.get_set r (i / 2) x t hs
        simp only [Option.some.injEq] at h; subst h
        cases j with
        | zero => rw [Vt.get_zero, Vt.get_zero, if_neg (by omega)]
        | succ j =>
          rcases Nat.mod_two_eq_zero_or_one j with hj | hj
          · rw [Vt.get_even hj, Vt.get_even hj, if_neg (by omega)]
          · rw [Vt.get_odd hj, Vt.get_odd hj, ih]
            have : (j / 2 = i / 2) ↔ (j + 1 = i + 1) := by omega
            simp only [this]
      · cases h
def Vt.full : Nat → Nat → Vt
  | 0, _ => .lf
  | _ + 1, 0 => .lf
  | f + 1, n + 1 => .nd undef (Vt.full f ((n + 1) / 2)) (Vt.full f (n / 2))
theorem Vt.get_full : ∀ (f n i : Nat), (Vt.full f n).get i = undef
  | 0, n, i => by rw [Vt.full, Vt.get_lf]
  | f + 1, 0, i => by rw [Vt.full, Vt.get_lf]
  | f + 1, n + 1, 0 => by rw [Vt.full, Vt.get_zero]
  | f + 1, n + 1, i + 1 => by
    rcases Nat.mod_two_eq_zero_or_one i with hi | hi
    · rw [Vt.full, Vt.get_even hi, Vt.get_full f]
    · rw [Vt.full, Vt.get_odd hi, Vt.get_full f]
def Vt.setAll : Vt → Nat → List Value → Option Vt
  | t, _, [] => some t
  | t, i, v :: l => match t.set i v with
    | some t' => Vt.setAll t' (i + 1) l
    | none => none
theorem Vt.get_setAll : ∀ (l : List Value) (t : Vt) (i : Nat) (t' : Vt), t.setAll i l = some t' → ∀ j, t'.get j = if i ≤ j then (match l[j - i]? with | some v => v | none => t.get j) else t.get j
  | [], t, i, t', h, j => by
    simp only [Vt.setAll, Option.some.injEq] at h; subst h
    simp
  | v :: l, t, i, t', h, j => by
    simp only [Vt.setAll] at h
    split at h
    · rename_i t1 h1
      have e1 := Vt.get_set _ _ _ _ h1
      rw [Vt.get_setAll l t1 (i + 1) t' h j]
      by_cases hj : i ≤ j
      · rw [if_pos hj]
        by_cases hji : j = i
        · subst hji
          rw [if_neg (by omega), e1, if_pos rfl]
          simp
        · rw [if_pos (by omega), e1, if_neg hji]
          have : j - i = (j - (i + 1)) + 1 := by omega
          rw [this]; simp
      · rw [if_neg hj, if_neg (by omega), e1, if_neg (by omega)]
    · cases h
/-- As bind, by the types' own recursors. -/
def fbind2 {β : Type} (r w : Nat) (x : Option (Out β)) : Option (Out β) := Option.casesOn x none (fun p => Out.casesOn (motive := fun _ => Option (Out β)) p (fun a2 c2 h2 r2 w2 => some ⟨a2, c2, h2, Nat.lor r r2, Nat.lor w w2⟩))
def fbind {α β : Type} (m : Comp α) (f : α → Comp β) : Comp β := fun c h =>
  Option.casesOn (motive := fun _ => Option (Out β)) (m c h) none (fun o => Out.casesOn (motive := fun _ => Option (Out β)) o (fun a1 c1 h1 r1 w1 => Nat.casesOn (motive := fun _ => Option (Out β)) c1 (fbind2 r1 w1 (f a1 0 h1)) (fun n => fbind2 r1 w1 (f a1 (Nat.succ n) h1))))
theorem fbind_eq {α β : Type} (m : Comp α) (f : α → Comp β) : fbind m f = bind m f := by
  funext c h
  rw [bind_eq]
  unfold fbind
  cases m c h with
  | none => rfl
  | some o =>
    obtain ⟨a1, c1, h1, r1, w1⟩ := o
    have key : ∀ n, fbind2 r1 w1 (f a1 n h1) = (match f a1 n h1 with | none => none | some p => some ⟨p.a, p.c, p.h, Nat.lor r1 p.r, Nat.lor w1 p.w⟩) := fun n => by
      unfold fbind2
      cases f a1 n h1 <;> rfl
    cases c1 with
    | zero => exact key 0
    | succ n => exact key (n + 1)
def fgd {α : Type} (b : Bool) (m : Comp α) : Comp α := fun c h => Bool.casesOn b none (m c h)
theorem fgd_eq {α : Type} (b : Bool) (m : Comp α) : fgd b m = gd b m := by funext c h; cases b <;> rfl
def fbr {α : Type} (b : Bool) (m n : Comp α) : Comp α := fun c h => Bool.casesOn b (n c h) (m c h)
theorem fbr_eq {α : Type} (b : Bool) (m n : Comp α) : fbr b m n = br b m n := by funext c h; cases b <;> rfl
def fopt {α β : Type} (x : Option α) (f : α → Comp β) : Comp β := fun c h => Option.casesOn (motive := fun _ => Option (Out β)) x none (fun a => f a c h)
structure Sl where
  t : Vt
  n : Nat
def Sl.eval (s : Sl) : Operand → Value
  | .tmp t => s.t.get t
  | .const v => v
  | .global g => .pointer (some ⟨g, 0, none⟩)
  | .func f => .func (.func f) #[] #[]
def Sl.put (s : Sl) : Option Tmp → Value → Option Sl
  | none, _ => some s
  | some d, v => force s.n fun n => match Nat.blt d n with
    | true => match s.t.set d v with
      | some t' => some ⟨t', n⟩
      | none => none
    | false => none
def Sl.yielded (s : Sl) (ops : Array Oper) (j : Nat) : Option Bool :=
  match (ops[j]?).bind (·.dst) with
  | some t => match s.t.get t with
    | .bool b => some b
    | _ => none
  | none => none
/-- Several operands' values. -/
def Sl.evals (s : Sl) : List Operand → List Value
  | [] => []
  | x :: l => s.eval x :: Sl.evals s l
theorem Sl.evals_eq (s : Sl) (l : List Operand) : s.evals l = l.map s.eval := by
  induction l with
  | nil => rfl
  | cons x l ih => rw [List.map_cons, ← ih]; rfl
def fall {α : Type} (f : α → Bool) : List α → Bool
  | [] => true
  | x :: l => Bool.casesOn (f x) false (fall f l)
theorem fall_eq {α : Type} (f : α → Bool) (l : List α) : fall f l = l.all f := by
  induction l with
  | nil => rfl
  | cons x l ih =>
    rw [List.all_cons, ← ih]
    show (Bool.casesOn (motive := fun _ => Bool) (f x) false (fall f l)) = _
    cases f x <;> rfl
structure SR (s : Sl) (a : Act) : Prop where
  size : a.tmps.size = s.n
  get : ∀ t, s.t.get t = a.tmps.getD t undef
  nod : a.defers = []
theorem SR.eval {s : Sl} {a : Act} (h : SR s a) : s.eval = a.eval := by
  funext x
  cases x with
  | tmp t => exact h.get t
  | _ => rfl
theorem SR.put {s s' : Sl} {a : Act} {d : Option Tmp} {v : Value} (h : SR s a) (hp : s.put d v = some s') : SR s' (a.put d v) := by
  cases d with
  | none => simp only [Sl.put, Option.some.injEq] at hp; subst hp; exact h
  | some d =>
    simp only [Sl.put, force_eq] at hp
    split at hp
    · rename_i hb
      have hb := blt_true hb
      split at hp
      · rename_i t' ht
        simp only [Option.some.injEq] at hp; subst hp
        refine ⟨by simpa [Act.put] using h.size, fun t => ?_, h.nod⟩
        simp only [Act.put]
        rw [Vt.get_set _ _ _ _ ht, Array.getD_eq_getD_getElem?, Array.getElem?_setIfInBounds]
        split
        · rename_i e; subst e
          rw [if_pos rfl, if_pos (by rw [h.size]; exact hb)]; rfl
        · rename_i e
          rw [if_neg (fun h => e h.symm), h.get, Array.getD_eq_getD_getElem?]
      · cases hp
    · cases hp
theorem SR.yielded {s : Sl} {a : Act} (h : SR s a) (ops : Array Oper) : s.yielded ops = Go.yielded ops a.tmps := by
  funext j
  unfold Sl.yielded Go.yielded
  cases hd : (ops[j]?).bind (·.dst) with
  | none => rfl
  | some t =>
    simp only [Option.bind_some]
    rw [h.get]
    by_cases ht : t < a.tmps.size
    · simp only [Array.getD, ht, dite_true, Array.getElem?_eq_getElem ht]
      show (match a.tmps[t] with | .bool b => some b | _ => none) = _
      cases a.tmps[t] <;> rfl
    · simp [Array.getD, ht]
      rfl
/-! ### One for the other -/
def Ref {α : Type} (m m' : Comp α) : Prop := ∀ c h o, m c h = some o → m' c h = some o
theorem Ref.refl {α : Type} (m : Comp α) : Ref m m := fun _ _ _ h => h
theorem Ref.gd {α : Type} {b : Bool} {m m' : Comp α} (h : Ref m m') : Ref (gd b m) (gd b m') := by
  intro c hh o he
  cases b with
  | true => exact h c hh o he
  | false => cases he
theorem Ref.br {α : Type} {b : Bool} {m m' n n' : Comp α} (h : Ref m m') (k : Ref n n') : Ref (br b m n) (br b m' n') := by
  intro c hh o he
  cases b with
  | true => exact h c hh o he
  | false => exact k c hh o he
theorem Ref.listen {α : Type} {m m' : Comp α} (h : Ref m m') : Ref (listen m) (listen m') := by
  intro c hh o he
  simp only [ev.listen] at he ⊢
  split at he
  · rename_i p hp
    rw [h c hh p hp]; exact he
  · cases he
structure RefC (call call' : CallF) : Prop where
  ofCall : ∀ k args, Ref (call.call k args) (call'.call k args)
  ofTab : call.tab = call'.tab
/-! ### The operations that come most often, by a short way -/
def kcx : IntKind → Nat
  | .i8 => 0 | .i16 => 1 | .i32 => 2 | .i64 => 3 | .u8 => 4 | .u16 => 5 | .u32 => 6 | .u64 => 7
theorem kcx_inj {a b : IntKind} (h : kcx a = kcx b) : a = b := by cases a <;> cases b <;> first | rfl | cases h
def fastBin (op : BinOp) (k : IntKind) (a b : Int) : Option Value :=
  match op with
  | .add => some (.int k (k.wrap (a + b)))
  | .sub => some (.int k (k.wrap (a - b)))
  | .mul => some (.int k (k.wrap (a * b)))
  | .eql => some (.bool (a == b))
  | .neq => some (.bool (a != b))
  | .lss => some (.bool (decide (a < b)))
  | .leq => some (.bool (decide (a ≤ b)))
  | .gtr => some (.bool (decide (a > b)))
  | .geq => some (.bool (decide (a ≥ b)))
  | _ => none
def fxBin (op : BinOp) : List Value → Option (Comp Value)
  | [.int k a, .int l b] => match Nat.beq (kcx k) (kcx l) with
    | true => optMap ret (fastBin op k a b)
    | false => none
  | _ => none
def fxConv (P : Program) (s d : TypeId) : List Value → Option (Comp Value)
  | [.int _ n] => match P.underlying s with
    | some _ => match P.underlying d with
      | some (.int k) => some (ret (.int k (k.wrap n)))
      | _ => none
    | none => none
  | _ => none
def fxSame : List Value → Option (Comp Value)
  | [v] => some (ret v)
  | _ => none
def fxNil : List Value → Option (Comp Value)
  | [.pointer (some a)] => some (ret (.pointer (some a)))
  | _ => none
def fxLoad (P : Program) (t : TypeId) : List Value → Option (Comp Value)
  | [.pointer (some a)] => some (evLoad P t (.pointer (some a)))
  | _ => none
def fxStore (P : Program) (t : TypeId) : List Value → Option (Comp Value)
  | [.pointer (some a), v] => some (evStore P t (.pointer (some a)) v)
  | _ => none
def fxField (P : Program) (t : TypeId) (f : Nat) : List Value → Option (Comp Value)
  | [.pointer (some a)] => some (evField P t f (.pointer (some a)))
  | _ => none
def fxIx (P : Program) (t : TypeId) : List Value → Option (Comp Value)
  | [.pointer (some a), i] => some (ofOpt (ixAny P t (.pointer (some a)) i))
  | [.slice (some a) l c, i] => some (ofOpt (ixAny P t (.slice (some a) l c) i))
  | _ => none
def fxQ (P : Program) (op : Op) (xs : List Value) : Option (Comp Value) :=
  match op with
  | .move _ => fxSame xs
  | .assign _ => fxSame xs
  | .nilCheck _ => fxNil xs
  | .load t _ => fxLoad P t xs
  | .store t _ _ => fxStore P t xs
  | .fieldAddr t _ f => fxField P t f xs
  | .indexAddr t _ _ => fxIx P t xs
  | .binOp op _ _ _ _ => fxBin op xs
  | .convert s d _ => fxConv P s d xs
  | _ => none
theorem flat_ptr (a : Addr) (l : List Value) : (Value.pointer (some a) :: l).all flat = false := by
  rw [List.all_cons]; rfl
theorem flat_sl (a : Addr) (n c : Nat) (l : List Value) : (Value.slice (some a) n c :: l).all flat = false := by
  rw [List.all_cons]; rfl
theorem quietly {o : Oper} {ρ : Operand → Value} {xs : List Value} {v : Value} (hq : quiet P (execOp ρ o) = some (.value v)) (hv : flat v = true) (hf : xs.all flat = true) : Ref (ret v) (br (xs.all flat) (flatOp P o ρ xs) (hard P o xs)) := by
  intro c h out he
  rw [hf]
  simp only [br, flatOp, hq, gd, hv]
  exact he
theorem fxSame_ref {o : Oper} {ρ : Operand → Value} {xs : List Value} {m : Comp Value} (h : fxSame xs = some m) (hq : ∀ v, xs = [v] → quiet P (execOp ρ o) = some (.value v)) (hh : ∀ v, hard P o [v] = ret v) : Ref m (br (xs.all flat) (flatOp P o ρ xs) (hard P o xs)) := by
  unfold fxSame at h
  split at h
  · rename_i v
    simp only [Option.some.injEq] at h; subst h
    cases hf : flat v with
    | true => exact quietly (hq v rfl) hf (by simp [hf])
    | false =>
      intro c hh' out he
      have : [v].all flat = false := by simp [hf]
      rw [this]
      simp only [br, hh]
      exact he
  · cases h
theorem byHard {o : Oper} {ρ : Operand → Value} {xs : List Value} {m : Comp Value} (hf : xs.all flat = false) (hh : hard P o xs = m) : Ref m (br (xs.all flat) (flatOp P o ρ xs) (hard P o xs)) := by
  intro c h out he
  rw [hf]
  simp only [br, hh]
  exact he
theorem quiet_bind_of {α γ : Type} {f : α → Sem γ} : ∀ (s : Sem α) (a : α), quiet P s = some a → quiet P (s.bind f) = quiet P (f a)
  | .pure b, a, h => by simp only [quiet, Option.some.injEq] at h; subst h; rfl
  | .program k, a, h => by simp only [quiet] at h; simp only [Sem.bind, quiet]; exact quiet_bind_of (k P) a h
  | .mark m k, a, h => by simp only [quiet] at h; simp only [Sem.bind, quiet]; exact quiet_bind_of k a h
  | .load .., a, h => by simp [quiet] at h
  | .store .., a, h => by simp [quiet] at h
  | .new .., a, h => by simp [quiet] at h
  | .shape .., a, h => by simp [quiet] at h
  | .freeze .., a, h => by simp [quiet] at h
  | .frozen .., a, h => by simp [quiet] at h
  | .getObj .., a, h => by simp [quiet] at h
  | .setObj .., a, h => by simp [quiet] at h
  | .choose .., a, h => by simp [quiet] at h
  | .sys .., a, h => by simp [quiet] at h
  | .halt .., a, h => by simp [quiet] at h
theorem quiet_underlying {t : TypeId} {d : TypeDesc} (h : P.underlying t = some d) : quiet P (underlying t) = some d := by
  show quiet P (match P.underlying t with | some d => (pure d : Sem TypeDesc) | none => _) = _
  rw [h]
  rfl
theorem fxBin_ref {o : Oper} {ρ : Operand → Value} {xs : List Value} {m : Comp Value} {op : BinOp} {t yt : TypeId} {x y : Operand} (ho : o.op = .binOp op t x y yt) (hxs : xs = o.op.operands.toList.map ρ) (h : fxBin op xs = some m) : Ref m (br (xs.all flat) (flatOp P o ρ xs) (hard P o xs)) := by
  unfold fxBin at h
  split at h
  · rename_i k a l b
    split at h
    · rename_i hk
      have hk := kcx_inj (Nat.of_beq hk)
      subst hk
      rw [optMap_eq] at h
      split at h
      · rename_i v hv
        simp only [Option.some.injEq] at h; subst h
        simp only [ho, Op.operands] at hxs
        simp at hxs
        obtain ⟨h1, h2⟩ := hxs
        have hfv : flat v = true := by
          unfold fastBin at hv
          split at hv <;> first
            | (simp only [Option.some.injEq] at hv; subst hv; rfl)
            | cases hv
        refine quietly ?_ hfv rfl
        have e1 : execOp ρ o = (do eqGuard op t x y (.int k a) (.int k b); let r ← Go.binOp op t (.int k a) (.int k b); Pure.pure (Next.value r) : Sem Next) := by
          simp only [execOp, ho, ← h1, ← h2]
          cases op <;> rfl
        rw [e1]
        unfold fastBin at hv
        split at hv <;> first
          | (simp only [Option.some.injEq] at hv; subst hv; simp [eqGuard, Go.binOp, Op.intArith, Op.intCmp]; rfl)
          | cases hv
      · cases h
    · cases h
  · cases h
theorem fxConv_ref {o : Oper} {ρ : Operand → Value} {xs : List Value} {m : Comp Value} {s d : TypeId} {x : Operand} (ho : o.op = .convert s d x) (hxs : xs = o.op.operands.toList.map ρ) (h : fxConv P s d xs = some m) : Ref m (br (xs.all flat) (flatOp P o ρ xs) (hard P o xs)) := by
  unfold fxConv at h
  split at h
  · rename_i l n
    split at h
    · rename_i ds hs
      split at h
      · rename_i k hd
        simp only [Option.some.injEq] at h; subst h
        simp only [ho, Op.operands] at hxs
        simp at hxs
        refine quietly ?_ rfl rfl
        have e1 : execOp ρ o = (do let r ← Go.convert s d (.int l n); Pure.pure (Next.value r) : Sem Next) := by
          simp only [execOp, ho, ← hxs]
        rw [e1]
        have hc : quiet P (Go.convert s d (.int l n)) = some (.int k (k.wrap n)) := by
          unfold Go.convert
          refine (quiet_bind_of _ _ (quiet_underlying hs)).trans ?_
          refine (quiet_bind_of _ _ (quiet_underlying hd)).trans ?_
          cases ds <;> rfl
        exact (quiet_bind_of _ _ hc).trans rfl
      · cases h
    · cases h
  · cases h
theorem fxQ_ref {o : Oper} {ρ : Operand → Value} {xs : List Value} {m : Comp Value} (hxs : xs = o.op.operands.toList.map ρ) (h : fxQ P o.op xs = some m) : Ref m (br (xs.all flat) (flatOp P o ρ xs) (hard P o xs)) := by
  unfold fxQ at h
  split at h
  · rename_i x ho
    refine fxSame_ref h (fun v hv => ?_) (fun v => by unfold hard; simp only [ho])
    simp only [ho, Op.operands] at hxs
    rw [hv] at hxs
    simp at hxs
    simp only [execOp, ho, ← hxs]
    rfl
  · rename_i x ho
    refine fxSame_ref h (fun v hv => ?_) (fun v => by unfold hard; simp only [ho])
    simp only [ho, Op.operands] at hxs
    rw [hv] at hxs
    simp at hxs
    simp only [execOp, ho, ← hxs]
    rfl
  · rename_i x ho
    unfold fxNil at h
    split at h
    · simp only [Option.some.injEq] at h; subst h
      exact byHard (flat_ptr _ _) (by unfold hard; simp only [ho])
    · cases h
  · rename_i t x ho
    unfold fxLoad at h
    split at h
    · simp only [Option.some.injEq] at h; subst h
      exact byHard (flat_ptr _ _) (by unfold hard; simp only [ho])
    · cases h
  · rename_i t x y ho
    unfold fxStore at h
    split at h
    · simp only [Option.some.injEq] at h; subst h
      exact byHard (flat_ptr _ _) (by unfold hard; simp only [ho])
    · cases h
  · rename_i t x f ho
    unfold fxField at h
    split at h
    · simp only [Option.some.injEq] at h; subst h
      exact byHard (flat_ptr _ _) (by unfold hard; simp only [ho])
    · cases h
  · rename_i t x y ho
    unfold fxIx at h
    split at h
    · simp only [Option.some.injEq] at h; subst h
      exact byHard (flat_ptr _ _) (by unfold hard; simp only [ho])
    · simp only [Option.some.injEq] at h; subst h
      exact byHard (flat_sl _ _ _ _) (by unfold hard; simp only [ho])
    · cases h
  · rename_i op t x y yt ho
    exact fxBin_ref ho hxs h
  · rename_i s d x ho
    exact fxConv_ref ho hxs h
  · cases h
def fxRest (P : Program) (o : Oper) (s : Sl) (xs : List Value) : Comp Value := fbr (fall flat xs) (flatOp P o s.eval xs) (hard P o xs)
def fxOper1 (P : Program) (call : CallF) (o : Oper) (s : Sl) (xs : List Value) : Comp Value :=
  match callOf P o xs with
     | some (k, args) => call k args
     | none => match call.tab o xs with
       | some v => ret v
       | none => match fxQ P o.op xs with
         | some m => m
         | none => fxRest P o s xs
def fxOper (P : Program) (call : CallF) (o : Oper) (s : Sl) : Comp Value :=
  fgd (fall opOk o.op.operands.toList && notSel o.op) (fxOper1 P call o s (s.evals o.op.operands.toList))
theorem fxOper_ref {call call' : CallF} (hc : RefC call call') {o : Oper} {s : Sl} {a : Act} (h : SR s a) : Ref (fxOper P call o s) (evOper P call' o a) := by
  unfold fxOper fxOper1 evOper
  rw [fgd_eq, fall_eq, Sl.evals_eq, h.eval, hc.ofTab]
  refine Ref.gd ?_
  cases callOf P o (o.op.operands.toList.map a.eval) with
  | some p => exact hc.ofCall _ _
  | none =>
    simp only
    cases call'.tab o (o.op.operands.toList.map a.eval) with
    | some v => exact Ref.refl _
    | none =>
      simp only
      cases hq : fxQ P o.op (o.op.operands.toList.map a.eval) with
      | some m => exact fxQ_ref rfl hq
      | none =>
        simp only [fxRest, fbr_eq, fall_eq, h.eval]
        exact Ref.refl _
def fxStep (P : Program) (call : CallF) (ops : Array Oper) (o : Oper) (s : Sl) : Comp Value := fbr (Region.wanted o (s.yielded ops)) (fxOper P call o s) (ret undef)
theorem fxStep_refD {call call' : CallF} (hc : RefC call call') {ops : Array Oper} {o : Oper} {s : Sl} {a : Act} (h : SR s a) {c : Nat} {hh : Tr} {out : Out Value} (he : fxStep P call ops o s c hh = some out) (h1 : stepOp P call' ops o a c hh = some out) : stepD P call' ops o a c hh = some ⟨a.put o.dst out.a, out.c, out.h, out.r, out.w⟩ := by
  cases hcd : callD o.op with
  | some cl =>
    have hop := callD_some hcd
    simp only [stepD, hcd]
    unfold fxStep at he
    rw [fbr_eq, h.yielded] at he
    rcases br_some he with ⟨hw, he⟩ | ⟨hw, he⟩
    · exfalso
      unfold fxOper at he
      rw [fgd_eq] at he
      obtain ⟨hg, _⟩ := gd_some he
      rw [hop] at hg
      simp [notSel] at hg
    · simp only [ret, Option.some.injEq] at he; subst he
      simp only [br, hw, ret]
  | none =>
    simp only [stepD, hcd]
    simp only [ev.bind_eq, h1, ret]
    have hz : ∀ x : Nat, Nat.lor x 0 = x := fun x => Nat.or_zero x
    simp only [hz]
theorem fxStep_ref {call call' : CallF} (hc : RefC call call') {ops : Array Oper} {o : Oper} {s : Sl} {a : Act} (h : SR s a) : Ref (fxStep P call ops o s) (stepOp P call' ops o a) := by
  unfold fxStep stepOp
  rw [h.yielded, fbr_eq]
  exact Ref.br (fxOper_ref hc h) (Ref.refl _)
def fxSeq (P : Program) (call : CallF) (ops : Array Oper) : List Oper → Sl → Comp Sl
  | [], s => ret s
  | o :: l, s => fbind (fxStep P call ops o s) fun v => fopt (s.put o.dst v) fun s' => fxSeq P call ops l s'
theorem fxSeq_ok {call call' : CallF} (hc : RefC call call') {ops : Array Oper} : ∀ (l : List Oper) (s : Sl) (a : Act) (c : Nat) (h : Tr) (out : Out Sl), SR s a → fxSeq P call ops l s c h = some out →
    ∃ a', seqOps P call' ops l a c h = some ⟨a', out.c, out.h, out.r, out.w⟩ ∧ SR out.a a'
  | [], s, a, c, h, out, hs, he => by
    simp only [fxSeq, ret, Option.some.injEq] at he; subst he
    exact ⟨a, rfl, hs⟩
  | o :: l, s, a, c, h, out, hs, he => by
    simp only [fxSeq, fbind_eq] at he
    obtain ⟨o1, q1, ho1, hq1, rfl⟩ := bind_some he
    unfold fopt at hq1
    have h1 := fxStep_ref hc hs _ _ _ ho1
    cases hp : s.put o.dst o1.a with
    | some s' =>
      rw [hp] at hq1
      obtain ⟨a', h2, h3⟩ := fxSeq_ok hc l s' _ _ _ _ (hs.put hp) hq1
      exact ⟨a', by simp only [seqOps, ev.bind_eq, fxStep_refD hc hs ho1 h1, h2], h3⟩
    | none => rw [hp] at hq1; cases hq1
def fxAny (P : Program) (call : CallF) (ops : Array Oper) : List Oper → Nat → List Rec → Sl → Comp Sl
  | [], _, _, s => ret s
  | o :: l, k, recs, s => fopt (ancOf recs k o.after.toList) fun anc =>
      fbind (listen (fxStep P call ops o s)) fun x =>
        fgd (fall (compat ⟨k, anc, x.2.1, x.2.2, bits (o.looksAt ops), swOf o⟩) recs)
          (fopt (s.put o.dst x.1) fun s' => fxAny P call ops l (k + 1) (⟨k, anc, x.2.1, x.2.2, bits (o.looksAt ops), swOf o⟩ :: recs) s')
theorem fxAny_ok {call call' : CallF} (hc : RefC call call') {ops : Array Oper} : ∀ (l : List Oper) (k : Nat) (recs : List Rec) (s : Sl) (a : Act) (c : Nat) (h : Tr) (out : Out Sl), SR s a → fxAny P call ops l k recs s c h = some out →
    ∃ a', anyOps P call' ops l k recs a c h = some ⟨a', out.c, out.h, out.r, out.w⟩ ∧ SR out.a a'
  | [], k, recs, s, a, c, h, out, hs, he => by
    simp only [fxAny, ret, Option.some.injEq] at he; subst he
    exact ⟨a, rfl, hs⟩
  | o :: l, k, recs, s, a, c, h, out, hs, he => by
    simp only [fxAny, fbind_eq, fgd_eq, fall_eq] at he
    cases hanc : ancOf recs k o.after.toList with
    | none => rw [hanc] at he; cases he
    | some anc =>
    rw [hanc] at he
    have he : bind (listen (fxStep P call ops o s)) (fun x => gd (recs.all (compat ⟨k, anc, x.2.1, x.2.2, bits (o.looksAt ops), swOf o⟩)) (fopt (s.put o.dst x.1) fun s' => fxAny P call ops l (k + 1) (⟨k, anc, x.2.1, x.2.2, bits (o.looksAt ops), swOf o⟩ :: recs) s')) c h = some out := he
    obtain ⟨o1, q1, ho1, hq1, rfl⟩ := bind_some he
    have h1 := Ref.listen (fxStep_ref hc hs) _ _ _ ho1
    obtain ⟨hg, hq1⟩ := gd_some hq1
    unfold fopt at hq1
    cases hp : s.put o.dst o1.a.1 with
    | some s' =>
      rw [hp] at hq1
      obtain ⟨a', h2, h3⟩ := fxAny_ok hc l _ _ s' _ _ _ _ (hs.put hp) hq1
      refine ⟨a', ?_, h3⟩
      simp only [anyOps, ev.bind_eq, hanc, ofOpt, ret, h1, gd, hg, h2]
      simp only [show ∀ x : Nat, Nat.lor 0 x = x from fun x => Nat.zero_or x]
    | none => rw [hp] at hq1; cases hq1
/-! ### Regions whose order is drawn: what is the same at every run is looked at once -/
def slotOk (anc sr sw : Nat) (j : Rec) : Bool := anc.testBit j.k || (Nat.beq (Nat.land j.sw (Nat.lor sr sw)) 0 && Nat.beq (Nat.land j.sr sw) 0)
def memOk (anc r w : Nat) (j : Rec) : Bool := anc.testBit j.k || (Nat.beq (Nat.land j.w (Nat.lor r w)) 0 && Nat.beq (Nat.land j.r w) 0)
def ancsOf (ops : Array Oper) : List Oper → Nat → List Rec → Option (List Nat)
  | [], _, _ => some []
  | o :: l, k, recs => match ancOf recs k o.after.toList with
    | none => none
    | some anc => match fall (slotOk anc (bits (o.looksAt ops)) (swOf o)) recs with
      | true => match ancsOf ops l (k + 1) (⟨k, anc, 0, 0, bits (o.looksAt ops), swOf o⟩ :: recs) with
        | some as => some (anc :: as)
        | none => none
      | false => none
def key (r : Rec) : Nat × Nat × Nat × Nat := (r.k, r.anc, r.sr, r.sw)
theorem ancAt_congr : ∀ (T R : List Rec) (j : Nat), T.map key = R.map key → ancAt T j = ancAt R j
  | [], R, j, h => by
    have : R = [] := by simpa using h.symm
    subst this; rfl
  | t :: T, R, j, h => by
    cases R with
    | nil => simp at h
    | cons r R =>
      simp only [List.map_cons, List.cons.injEq, key, Prod.mk.injEq] at h
      obtain ⟨⟨h1, h2, _, _⟩, h3⟩ := h
      simp only [ancAt, h1, h2]
      rw [ancAt_congr T R j h3]
theorem ancOf_congr {T R : List Rec} (h : T.map key = R.map key) (k : Nat) : ∀ (l : List Edge), ancOf T k l = ancOf R k l
  | [] => rfl
  | e :: l => by simp only [ancOf, ancOf_congr h k l, ancAt_congr T R e.on h]
def fxAnyD (P : Program) (call : CallF) (ops : Array Oper) : List Oper → List Nat → Nat → List Rec → Sl → Comp Sl
  | [], _, _, _, s => ret s
  | _ :: _, [], _, _, _ => fail
  | o :: l, anc :: as, k, recs, s =>
      fbind (listen (fxStep P call ops o s)) fun x => force x.2.1 fun r => force x.2.2 fun w =>
        fbr (Nat.beq (Nat.lor r w) 0)
          (fopt (s.put o.dst x.1) fun s' => fxAnyD P call ops l as (k + 1) recs s')
          (fgd (fall (memOk anc r w) recs) (fopt (s.put o.dst x.1) fun s' => fxAnyD P call ops l as (k + 1) (⟨k, anc, r, w, 0, 0⟩ :: recs) s'))
theorem lor_zero {r w : Nat} (h : Nat.beq (Nat.lor r w) 0 = true) : r = 0 ∧ w = 0 := by
  have h := Nat.of_beq h
  constructor
  · apply Nat.eq_of_testBit_eq
    intro i
    have e : (Nat.lor r w).testBit i = (r.testBit i || w.testBit i) := testBit_lor r w i
    rw [h] at e
    simp at e
    simp [e.1]
  · apply Nat.eq_of_testBit_eq
    intro i
    have e : (Nat.lor r w).testBit i = (r.testBit i || w.testBit i) := testBit_lor r w i
    rw [h] at e
    simp at e
    simp [e.2]
theorem compat_of {k anc r w sr sw : Nat} {R T M : List Rec} (hT : T.map key = R.map key) (hs : T.all (slotOk anc sr sw) = true)
    (hm : (r = 0 ∧ w = 0) ∨ (M.all (memOk anc r w) = true ∧ ∀ q ∈ R, (q.r = 0 ∧ q.w = 0) ∨ ∃ m ∈ M, m.k = q.k ∧ m.r = q.r ∧ m.w = q.w)) : R.all (compat ⟨k, anc, r, w, sr, sw⟩) = true := by
  rw [List.all_eq_true]
  intro q hq
  have hz : ∀ x : Nat, Nat.land 0 x = 0 := fun x => Nat.zero_and x
  have hz' : ∀ x : Nat, Nat.land x 0 = 0 := fun x => Nat.and_zero x
  have h1 : slotOk anc sr sw q = true := by
    have hk : key q ∈ T.map key := by rw [hT]; exact List.mem_map_of_mem hq
    obtain ⟨t, ht, hkt⟩ := List.mem_map.1 hk
    rw [List.all_eq_true] at hs
    have := hs t ht
    simp only [key, Prod.mk.injEq] at hkt
    obtain ⟨e1, _, e3, e4⟩ := hkt
    unfold slotOk at this ⊢
    rw [e1, e3, e4] at this
    exact this
  have h2 : memOk anc r w q = true := by
    rcases hm with ⟨rfl, rfl⟩ | ⟨hm1, hm2⟩
    · unfold memOk
      rw [show Nat.lor 0 0 = 0 from rfl, hz', hz']
      simp
    · rcases hm2 q hq with ⟨e1, e2⟩ | ⟨m, hmm, e1, e2, e3⟩
      · unfold memOk
        rw [e1, e2, hz, hz]
        simp
      · rw [List.all_eq_true] at hm1
        have := hm1 m hmm
        unfold memOk at this ⊢
        rw [e1, e2, e3] at this
        exact this
  unfold slotOk at h1
  unfold memOk at h2
  unfold compat
  cases hb : anc.testBit q.k with
  | true => simp
  | false =>
    rw [hb] at h1 h2
    simp only [Bool.false_or, Bool.and_eq_true] at h1 h2 ⊢
    exact ⟨h2.1, h2.2, h1.1, h1.2⟩
theorem fxAnyD_ok {call call' : CallF} (hc : RefC call call') {ops : Array Oper} : ∀ (l : List Oper) (as : List Nat) (k : Nat) (M T R : List Rec) (s : Sl) (a : Act) (c : Nat) (h : Tr) (out : Out Sl), SR s a → ancsOf ops l k T = some as → T.map key = R.map key →
    (∀ q ∈ R, (q.r = 0 ∧ q.w = 0) ∨ ∃ m ∈ M, m.k = q.k ∧ m.r = q.r ∧ m.w = q.w) → fxAnyD P call ops l as k M s c h = some out →
    ∃ a', anyOps P call' ops l k R a c h = some ⟨a', out.c, out.h, out.r, out.w⟩ ∧ SR out.a a'
  | [], as, k, M, T, R, s, a, c, h, out, hs, hst, hT, hM, he => by
    cases as with
    | nil => simp only [fxAnyD, ret, Option.some.injEq] at he; subst he; exact ⟨a, rfl, hs⟩
    | cons _ _ => simp only [fxAnyD, ret, Option.some.injEq] at he; subst he; exact ⟨a, rfl, hs⟩
  | o :: l, as, k, M, T, R, s, a, c, h, out, hs, hst, hT, hM, he => by
    simp only [ancsOf] at hst
    cases hanc : ancOf T k o.after.toList with
    | none => rw [hanc] at hst; cases hst
    | some anc =>
    rw [hanc] at hst
    simp only [fall_eq] at hst
    cases hsl : T.all (slotOk anc (bits (o.looksAt ops)) (swOf o)) with
    | false => rw [hsl] at hst; cases hst
    | true =>
    rw [hsl] at hst
    simp only at hst
    cases has : ancsOf ops l (k + 1) (⟨k, anc, 0, 0, bits (o.looksAt ops), swOf o⟩ :: T) with
    | none => rw [has] at hst; cases hst
    | some as' =>
    rw [has] at hst
    simp only [Option.some.injEq] at hst
    subst hst
    simp only [fxAnyD, fbind_eq, fgd_eq, fall_eq, fbr_eq, force_eq] at he
    obtain ⟨o1, q1, ho1, hq1, rfl⟩ := bind_some he
    have h1 := Ref.listen (fxStep_ref hc hs) _ _ _ ho1
    have hR : ancOf R k o.after.toList = some anc := by rw [← ancOf_congr hT]; exact hanc
    have fin : ∀ (M' : List Rec), (R.all (compat ⟨k, anc, o1.a.2.1, o1.a.2.2, bits (o.looksAt ops), swOf o⟩)) = true →
        (∀ q ∈ (⟨k, anc, o1.a.2.1, o1.a.2.2, bits (o.looksAt ops), swOf o⟩ :: R : List Rec), (q.r = 0 ∧ q.w = 0) ∨ ∃ m ∈ M', m.k = q.k ∧ m.r = q.r ∧ m.w = q.w) →
        (fopt (s.put o.dst o1.a.1) fun s' => fxAnyD P call ops l as' (k + 1) M' s') o1.c o1.h = some q1 →
        ∃ a', anyOps P call' ops (o :: l) k R a c h = some ⟨a', q1.c, q1.h, Nat.lor o1.r q1.r, Nat.lor o1.w q1.w⟩ ∧ SR q1.a a' := fun M' hg hM' hq => by
      unfold fopt at hq
      cases hp : s.put o.dst o1.a.1 with
      | none => rw [hp] at hq; cases hq
      | some s' =>
        rw [hp] at hq
        obtain ⟨a', h2, h3⟩ := fxAnyD_ok hc l as' (k + 1) M' (⟨k, anc, 0, 0, bits (o.looksAt ops), swOf o⟩ :: T) (⟨k, anc, o1.a.2.1, o1.a.2.2, bits (o.looksAt ops), swOf o⟩ :: R) s' _ _ _ _ (hs.put hp) has (by simp only [List.map_cons, hT, key]) hM' hq
        refine ⟨a', ?_, h3⟩
        simp only [anyOps, ev.bind_eq, hR, ofOpt, ret, h1, gd, hg, h2]
        simp only [show ∀ x : Nat, Nat.lor 0 x = x from fun x => Nat.zero_or x]
    rcases br_some hq1 with ⟨hz, hq⟩ | ⟨_, hq⟩
    · obtain ⟨z1, z2⟩ := lor_zero hz
      refine fin M (compat_of (M := M) hT hsl (.inl ⟨z1, z2⟩)) (fun q hq' => ?_) hq
      rcases List.mem_cons.1 hq' with rfl | hq'
      · exact .inl ⟨z1, z2⟩
      · exact hM q hq'
    · obtain ⟨hg, hq⟩ := gd_some hq
      refine fin _ (compat_of hT hsl (.inr ⟨hg, hM⟩)) (fun q hq' => ?_) hq
      rcases List.mem_cons.1 hq' with rfl | hq'
      · exact .inr ⟨_, List.mem_cons_self .., rfl, rfl, rfl⟩
      · rcases hM q hq' with h5 | ⟨m, hm, h5⟩
        · exact .inl h5
        · exact .inr ⟨m, List.mem_cons_of_mem _ hm, h5⟩
def fxRegion (P : Program) (call : CallF) (ops : Array Oper) (s : Sl) : Bool → Comp Sl
  | true => fopt (ancsOf ops ops.toList 0 []) fun as => fxAnyD P call ops ops.toList as 0 [] s
  | false => fxSeq P call ops ops.toList s
def fxRounds (rec : Sl → Comp (Exit × Sl)) : Nat → Sl → Comp (Exit × Sl)
  | 0, _ => fail
  | n + 1, s => fbind (rec s) fun r => fbr (isNorm r.1) (fxRounds rec n r.2) (ret r)
def fxRes (P : Program) (s : Sl) : List ResultVar → Comp (List Value)
  | [] => ret []
  | .tmp t :: r => bind (fxRes P s r) fun vs => ret (s.t.get t :: vs)
  | .cell p t :: r => bind (evLoad P t (s.t.get p)) fun v => bind (fxRes P s r) fun vs => ret (v :: vs)
theorem fxRes_eq {s : Sl} {a : Act} (h : SR s a) : ∀ (l : List ResultVar), fxRes P s l = resCells P a l
  | [] => rfl
  | .tmp t :: r => by simp only [fxRes, resCells, fxRes_eq h r, h.get]
  | .cell p t :: r => by simp only [fxRes, resCells, fxRes_eq h r, h.get]
def Sl.init (args : List Value) (n : Nat) : Option Sl :=
  match Nat.ble args.length n with
  | true => match (Vt.full 64 n).setAll 0 args with
    | some t => some ⟨t, n⟩
    | none => none
  | false => none
theorem Sl.init_ok {args : List Value} {n : Nat} {s : Sl} (h : Sl.init args n = some s) : SR s ⟨(args ++ List.replicate (n - args.length) undef).toArray, []⟩ := by
  unfold Sl.init at h
  split at h
  · rename_i hb
    have hb := Nat.le_of_ble_eq_true hb
    split at h
    · rename_i t ht
      simp only [Option.some.injEq] at h; subst h
      refine ⟨by simp; omega, fun j => ?_, rfl⟩
      simp only
      rw [Vt.get_setAll _ _ _ _ ht j, if_pos (Nat.zero_le _), Nat.sub_zero, Vt.get_full, Array.getD_eq_getD_getElem?]
      simp only [List.getElem?_toArray, List.getElem?_append]
      split
      · rename_i v hv
        have := (List.getElem?_eq_some_iff.1 hv).1
        rw [if_pos this, hv]; rfl
      · rename_i hv
        have hn : args.length ≤ j := by simpa using hv
        rw [if_neg (by omega), List.getElem?_replicate]
        split <;> rfl
    · cases h
  · cases h
def fxWith (P : Program) (rec : Code → Sl → Comp (Exit × Sl)) (k : FuncId) (args : List Value) : Comp Value :=
  match P.funcs[k]? with
  | none => fail
  | some fn => match fn.body with
    | none => fail
    | some c => match Sl.init args fn.ntmps with
      | none => fail
      | some s => fbind (rec c s) fun r => fgd (isRet r.1) (bind (fxRes P r.2 fn.results.toList) fun vs => ret (resVal vs))
def fxSp (P : Program) (sp : SpF) (rec : Code → Sl → Comp (Exit × Sl)) (k : FuncId) (args : List Value) : Comp Value :=
  match sp k args with
  | some m => m
  | none => fxWith P rec k args
def fxCond (s : Sl) (c : Operand) : Option Bool :=
  match opOk c with
  | true => match s.eval c with
    | .bool b => some b
    | _ => none
  | false => none
def fxCode (P : Program) (tab : TabF) (sp : SpF) : Nat → Code → Sl → Comp (Exit × Sl)
  | 0, _, _ => fail
  | _ + 1, .skip, a => ret (.normal, a)
  | _ + 1, .label _, a => ret (.normal, a)
  | _ + 1, .ret, a => ret (.ret, a)
  | _ + 1, .exit id, a => ret (.exit id, a)
  | f + 1, .region _ ops draw, a => fbind (fxRegion P ⟨fun k args => fxSp P sp (fxCode P tab sp f) k args, tab⟩ ops a draw) fun a' => ret (.normal, a')
  | f + 1, .seq x y, a => fbind (fxCode P tab sp f x a) fun r => fbr (isNorm r.1) (fxCode P tab sp f y r.2) (ret r)
  | f + 1, .cond c x y, a => fopt (fxCond a c) fun b => fbr b (fxCode P tab sp f x a) (fxCode P tab sp f y a)
  | f + 1, .block id b, a => fbind (fxCode P tab sp f b a) fun r => ret (leave id r.1, r.2)
  | f + 1, .loop b, a => fxRounds (fxCode P tab sp f b) many a
  | f + 1, .scope b, a => fbind (fxCode P tab sp f b a) fun r => fgd (notGoto r.1) (ret r)
  | _ + 1, _, _ => fail
def fxCall (P : Program) (tab : TabF) (sp : SpF) (f : Nat) : CallF := ⟨fun k args => fxSp P sp (fxCode P tab sp f) k args, tab⟩
def RefR (rec : Code → Sl → Comp (Exit × Sl)) (rec' : Code → Act → Comp (Exit × Act)) : Prop := ∀ code s a c h out, SR s a → rec code s c h = some out →
  ∃ a', rec' code a c h = some ⟨(out.a.1, a'), out.c, out.h, out.r, out.w⟩ ∧ SR out.a.2 a'
theorem ret_bind {α β : Type} (a : α) (f : α → Comp β) : bind (ret a) f = f a := by
  funext c h
  rw [bind_eq]
  simp only [ret]
  have hz : ∀ x : Nat, Nat.lor 0 x = x := fun x => Nat.zero_or x
  cases f a c h with
  | none => rfl
  | some p => simp only [hz]
theorem fxSp_ref {sp : SpF} {rec : Code → Sl → Comp (Exit × Sl)} {rec' : Code → Act → Comp (Exit × Act)} (hr : RefR rec rec') (k : FuncId) (args : List Value) : Ref (fxSp P sp rec k args) (withSp P sp rec' k args) := by
  intro c h o he
  unfold fxSp at he
  unfold withSp
  cases hm : sp k args with
  | some m => rw [hm] at he; exact he
  | none =>
    rw [hm] at he
    simp only at he ⊢
    unfold fxWith at he
    unfold callWith
    cases hfn : P.funcs[k]? with
    | none => rw [hfn] at he; cases he
    | some fn =>
      rw [hfn] at he
      simp only at he ⊢
      cases hb : fn.body with
      | none => rw [hb] at he; cases he
      | some code =>
        rw [hb] at he
        simp only at he ⊢
        cases hi : Sl.init args fn.ntmps with
        | none => rw [hi] at he; cases he
        | some s =>
          rw [hi] at he
          simp only [fbind_eq, fgd_eq] at he
          obtain ⟨o1, q1, ho1, hq1, rfl⟩ := bind_some he
          obtain ⟨a', h1, h2⟩ := hr _ _ _ _ _ _ (Sl.init_ok hi) ho1
          rw [fxRes_eq h2] at hq1
          simp only [ev.bind_eq] at hq1 ⊢
          simp only [h1, h2.nod, runDs, ret_bind, hq1]
theorem fxRounds_ok {rec : Code → Sl → Comp (Exit × Sl)} {rec' : Code → Act → Comp (Exit × Act)} (hr : RefR rec rec') {b : Code} : ∀ (n : Nat) (s : Sl) (a : Act) (c : Nat) (h : Tr) (out : Out (Exit × Sl)), SR s a → fxRounds (rec b) n s c h = some out →
    ∃ a', rounds (rec' b) n a c h = some ⟨(out.a.1, a'), out.c, out.h, out.r, out.w⟩ ∧ SR out.a.2 a'
  | 0, s, a, c, h, out, hs, he => by cases he
  | n + 1, s, a, c, h, out, hs, he => by
    simp only [fxRounds, fbind_eq, fbr_eq] at he
    obtain ⟨o1, q1, ho1, hq1, rfl⟩ := bind_some he
    obtain ⟨a1, h1, h2⟩ := hr _ _ _ _ _ _ hs ho1
    rcases br_some hq1 with ⟨hn, hq⟩ | ⟨hn, hq⟩
    · obtain ⟨a', h3, h4⟩ := fxRounds_ok hr n _ _ _ _ _ h2 hq
      exact ⟨a', by simp only [rounds, ev.bind_eq, h1, br, hn, h3], h4⟩
    · simp only [ret, Option.some.injEq] at hq; subst hq
      exact ⟨a1, by simp only [rounds, ev.bind_eq, h1, br, hn, ret], h2⟩
theorem fxCode_ok {tab : TabF} {sp : SpF} : ∀ (f : Nat), RefR (fxCode P tab sp f) (evCode P tab sp f)
  | 0 => fun code s a c h out hs he => by cases he
  | f + 1 => fun code s a c h out hs he => by
    have IH := fxCode_ok (tab := tab) (sp := sp) f
    have IC : RefC ⟨fun k args => fxSp P sp (fxCode P tab sp f) k args, tab⟩ ⟨fun k args => withSp P sp (evCode P tab sp f) k args, tab⟩ := ⟨fxSp_ref IH, rfl⟩
    cases code with
    | skip => simp only [fxCode, ret, Option.some.injEq] at he; subst he; exact ⟨a, rfl, hs⟩
    | label l => simp only [fxCode, ret, Option.some.injEq] at he; subst he; exact ⟨a, rfl, hs⟩
    | ret => simp only [fxCode, ret, Option.some.injEq] at he; subst he; exact ⟨a, rfl, hs⟩
    | exit id => simp only [fxCode, ret, Option.some.injEq] at he; subst he; exact ⟨a, rfl, hs⟩
    | region id ops draw =>
      simp only [fxCode, fbind_eq, fbr_eq, fgd_eq] at he
      obtain ⟨o1, q1, ho1, hq1, rfl⟩ := bind_some he
      simp only [ret, Option.some.injEq] at hq1; subst hq1
      cases draw with
      | true =>
        have ho1 : (fopt (ancsOf ops ops.toList 0 []) fun as => fxAnyD P ⟨fun k args => fxSp P sp (fxCode P tab sp f) k args, tab⟩ ops ops.toList as 0 [] s) c h = some o1 := ho1
        unfold fopt at ho1
        cases has : ancsOf ops ops.toList 0 [] with
        | none => rw [has] at ho1; cases ho1
        | some as =>
        rw [has] at ho1
        obtain ⟨a', h1, h2⟩ := fxAnyD_ok IC _ as 0 [] [] [] s a c h o1 hs has rfl (fun q hq => by cases hq) ho1
        exact ⟨a', by simp only [evCode, evRegion, ev.bind_eq, h1, ret], h2⟩
      | false =>
        obtain ⟨a', h1, h2⟩ := fxSeq_ok IC _ _ _ _ _ _ hs ho1
        exact ⟨a', by simp only [evCode, evRegion, ev.bind_eq, h1, ret], h2⟩
    | seq x y =>
      simp only [fxCode, fbind_eq, fbr_eq, fgd_eq] at he
      obtain ⟨o1, q1, ho1, hq1, rfl⟩ := bind_some he
      obtain ⟨a1, h1, h2⟩ := IH _ _ _ _ _ _ hs ho1
      rcases br_some hq1 with ⟨hn, hq⟩ | ⟨hn, hq⟩
      · obtain ⟨a', h3, h4⟩ := IH _ _ _ _ _ _ h2 hq
        exact ⟨a', by simp only [evCode, ev.bind_eq, h1, br, hn, h3], h4⟩
      · simp only [ret, Option.some.injEq] at hq; subst hq
        exact ⟨a1, by simp only [evCode, ev.bind_eq, h1, br, hn, ret], h2⟩
    | cond cc x y =>
      simp only [fxCode, fbind_eq, fbr_eq, fgd_eq] at he
      cases hb : fxCond s cc with
      | none => rw [hb] at he; cases he
      | some b =>
      rw [hb] at he
      have hq1 : br b (fxCode P tab sp f x s) (fxCode P tab sp f y s) c h = some out := he
      have hb' : condOf a cc = some b := by
        unfold fxCond at hb
        unfold condOf
        rw [hs.eval] at hb
        exact hb
      rcases br_some hq1 with ⟨rfl, hq⟩ | ⟨rfl, hq⟩
      · obtain ⟨a', h3, h4⟩ := IH _ _ _ _ _ _ hs hq
        refine ⟨a', ?_, h4⟩
        simp only [evCode, ev.bind_eq, hb', ofOpt, ret, br, h3]
        simp only [show ∀ x : Nat, Nat.lor 0 x = x from fun x => Nat.zero_or x]
      · obtain ⟨a', h3, h4⟩ := IH _ _ _ _ _ _ hs hq
        refine ⟨a', ?_, h4⟩
        simp only [evCode, ev.bind_eq, hb', ofOpt, ret, br, h3]
        simp only [show ∀ x : Nat, Nat.lor 0 x = x from fun x => Nat.zero_or x]
    | block id b =>
      simp only [fxCode, fbind_eq, fbr_eq, fgd_eq] at he
      obtain ⟨o1, q1, ho1, hq1, rfl⟩ := bind_some he
      simp only [ret, Option.some.injEq] at hq1; subst hq1
      obtain ⟨a1, h1, h2⟩ := IH _ _ _ _ _ _ hs ho1
      exact ⟨a1, by simp only [evCode, ev.bind_eq, h1, ret], h2⟩
    | loop b =>
      simp only [fxCode, fbind_eq, fbr_eq, fgd_eq] at he
      obtain ⟨a', h1, h2⟩ := fxRounds_ok IH many s a c h out hs he
      exact ⟨a', by simp only [evCode, h1], h2⟩
    | scope b =>
      simp only [fxCode, fbind_eq, fbr_eq, fgd_eq] at he
      obtain ⟨o1, q1, ho1, hq1, rfl⟩ := bind_some he
      obtain ⟨hg, hq1⟩ := gd_some hq1
      simp only [ret, Option.some.injEq] at hq1; subst hq1
      obtain ⟨a1, h1, h2⟩ := IH _ _ _ _ _ _ hs ho1
      exact ⟨a1, by simp only [evCode, ev.bind_eq, h1, gd, hg, ret], h2⟩
    | _ => cases he
theorem fxCall_says {tab : TabF} {sp : SpF} {f : Nat} {k : FuncId} {args : List Value} {b : Bool} (h : says (fxCall P tab sp f k args 0 .lf) = some b) : says (evCall P tab sp f k args 0 .lf) = some b := by
  cases he : fxCall P tab sp f k args 0 .lf with
  | none => rw [he] at h; cases h
  | some o =>
    have := fxSp_ref (fxCode_ok (P := P) (tab := tab) (sp := sp) f) k args 0 .lf o he
    rw [he] at h
    rw [show evCall P tab sp f k args 0 .lf = some o from this]
    exact h
end Go.Proofs.Ytdpmjghdmpaehaa.ev
