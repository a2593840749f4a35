/-
  How a world bears a small memory: each object lies in a block of its own, new since the beginning; values read alike but for where objects lie and for hidden room. Conditions: none.
-/
import Derived.Test.YtdpmjghdmpaehaaEvA
import Derived.Deep.MidRow
import Derived.ArgAppend
import Derived.Laws.NewBlocks
namespace Go.Proofs.Ytdpmjghdmpaehaa.ev
set_option linter.unusedVariables false
set_option linter.unusedSimpArgs false
structure Im where
  blk : Nat
  base : Nat
  n : Nat
  room : Nat
  sz : Nat
abbrev Mp := Nat → Option Im
inductive VR [Env] (β : Mp) : Value → Value → Prop
  | opq (j : Nat) : (Env.E j).oneCell' = true → (∀ b, Env.E j ≠ .bool b) → VR β (.chan (some j)) (Env.E j)
  | bool (b : Bool) : VR β (.bool b) (.bool b)
  | int (k : IntKind) (n : Int) : VR β (.int k n) (.int k n)
  | str (s : ByteArray) : VR β (.string s) (.string s)
  | nilp : VR β (.pointer none) (.pointer none)
  | ptr {i : Nat} {I : Im} (o : Nat) : β i = some I → VR β (.pointer (some ⟨i, o, none⟩)) (.pointer (some ⟨I.blk, I.base + o, none⟩))
  | nils (l c : Nat) : VR β (.slice none l c) (.slice none l c)
  | sl {i : Nat} {I : Im} {a' : Addr} (o l c c' : Nat) : β i = some I → l ≤ c → c ≤ c' → (c' = c ∨ (0 < I.sz ∧ o + c * I.sz = I.n ∧ o + c' * I.sz ≤ I.n + I.room)) → (a' = ⟨I.blk, I.base + o, none⟩ ∨ c' = 0) → VR β (.slice (some ⟨i, o, none⟩) l c) (.slice (some a') l c')
  | ssl {i : Nat} {I : Im} {a' : Addr} (o q l d c' : Nat) : β i = some I → l ≤ lenS q d → lenS q d ≤ c' → o + lenS q d ≤ I.n → lenOf q ≤ 2 ^ 40 → (∃ n : Nat, Env.E q = .int .i64 n) → (a' = ⟨I.blk, I.base + o, none⟩ ∨ c' = 0) → o + c' ≤ I.n + I.room → VR β (.slice (some ⟨i, o, some (q + 1)⟩) l d) (.slice (some a') (lenS q d) c')
  | ksl {i : Nat} {I : Im} {a' : Addr} (o l c c' : Nat) : β i = some I → l ≤ c' → o + l ≤ I.n → (a' = ⟨I.blk, I.base + o, none⟩ ∨ c' = 0) → VR β (.slice (some ⟨i, o, some 0⟩) l c) (.slice (some a') l c')
  | nilm : VR β (.map none) (.map none)
  | map {i : Nat} {I : Im} : β i = some I → VR β (.map (some i)) (.map (some I.blk))
  | nilf : VR β .nilFunc .nilFunc
  | func (fn : Fn) {f f' c c' : Array Value} : f.size = f'.size → (∀ (j : Nat) (v v' : Value), f[j]? = some v → f'[j]? = some v' → VR β v v') → c.size = c'.size → (∀ (j : Nat) (v v' : Value), c[j]? = some v → c'[j]? = some v' → VR β v v') → VR β (.func fn f c) (.func fn f' c')
  | iface (t : TypeId) {v v' : Value} : VR β v v' → VR β (.iface t v) (.iface t v')
  | nili : VR β .nilIface .nilIface
  | agg {c c' : Array Value} : c.size = c'.size → (∀ (j : Nat) (v v' : Value), c[j]? = some v → c'[j]? = some v' → VR β v v') → VR β (.agg c) (.agg c')
  | tuple {c c' : Array Value} : c.size = c'.size → (∀ (j : Nat) (v v' : Value), c[j]? = some v → c'[j]? = some v' → VR β v v') → VR β (.tuple c) (.tuple c')
theorem VR.mono [Env] {β β' : Mp} (he : ∀ i I, β i = some I → β' i = some I) {v v' : Value} (h : VR β v v') : VR β' v v' := by
  induction h with
  | opq j h1 h2 => exact .opq j h1 h2
  | bool b => exact .bool b
  | int k n => exact .int k n
  | str s => exact .str s
  | nilp => exact .nilp
  | ptr o h => exact .ptr o (he _ _ h)
  | nils l c => exact .nils l c
  | sl o l c c' h h1 h2 h3 h4 => exact .sl o l c c' (he _ _ h) h1 h2 h3 h4
  | ssl o q l d c' h h1 h2 h3 h4 h5 h6 h7 => exact .ssl o q l d c' (he _ _ h) h1 h2 h3 h4 h5 h6 h7
  | ksl o l c c' h h1 h2 h3 => exact .ksl o l c c' (he _ _ h) h1 h2 h3
  | nilm => exact .nilm
  | map h => exact .map (he _ _ h)
  | nilf => exact .nilf
  | func fn h1 h2 h3 h4 ih1 ih2 => exact .func fn h1 ih1 h3 ih2
  | iface t h ih => exact .iface t ih
  | nili => exact .nili
  | agg h1 h2 ih => exact .agg h1 ih
  | tuple h1 h2 ih => exact .tuple h1 ih
/-- No place of memory in it. -/
def flatN : Nat → Value → Bool
  | 0, _ => false
  | _ + 1, .bool _ => true
  | _ + 1, .int _ _ => true
  | _ + 1, .string _ => true
  | _ + 1, .pointer none => true
  | _ + 1, .slice none _ _ => true
  | _ + 1, .map none => true
  | _ + 1, .nilFunc => true
  | _ + 1, .nilIface => true
  | n + 1, .func _ f c => f.toList.all (flatN n) && c.toList.all (flatN n)
  | n + 1, .iface _ v => flatN n v
  | n + 1, .agg c => c.toList.all (flatN n)
  | n + 1, .tuple c => c.toList.all (flatN n)
  | _ + 1, _ => false
abbrev flat (v : Value) : Bool := flatN 6 v
theorem arr_eq {β : Mp} {c c' : Array Value} (h1 : c.size = c'.size) (h2 : ∀ (j : Nat) (v v' : Value), c[j]? = some v → c'[j]? = some v' → v = v') : c = c' := by
  apply Array.ext h1
  intro i hi hi'
  exact h2 i _ _ (Array.getElem?_eq_getElem hi) (Array.getElem?_eq_getElem hi')
theorem all_get {f : Value → Bool} {c : Array Value} (h : c.toList.all f = true) {j : Nat} {v : Value} (hv : c[j]? = some v) : f v = true := by
  rw [List.all_eq_true] at h
  refine h v ?_
  have := Array.mem_of_getElem? hv
  simpa using this
theorem VR.flat_eq [Env] {β : Mp} {v v' : Value} (h : VR β v v') : ∀ n, flatN n v = true → v = v' := by
  induction h with
  | opq j h1 h2 => intro n hn; cases n <;> simp [flatN] at hn
  | ptr o h => intro n hn; cases n <;> simp [flatN] at hn
  | sl o l c c' h => intro n hn; cases n <;> simp [flatN] at hn
  | ssl o q l d c' h => intro n hn; cases n <;> simp [flatN] at hn
  | ksl o l c c' h => intro n hn; cases n <;> simp [flatN] at hn
  | map h => intro n hn; cases n <;> simp [flatN] at hn
  | func fn h1 h2 h3 h4 ih1 ih2 =>
    intro n hn
    cases n with
    | zero => simp [flatN] at hn
    | succ n =>
      simp only [flatN, Bool.and_eq_true] at hn
      rw [arr_eq (β := β) h1 (fun j v v' hv hv' => ih1 j v v' hv hv' n (all_get hn.1 hv)), arr_eq (β := β) h3 (fun j v v' hv hv' => ih2 j v v' hv hv' n (all_get hn.2 hv))]
  | iface t h ih =>
    intro n hn
    cases n with
    | zero => simp [flatN] at hn
    | succ n => rw [ih n (by simpa [flatN] using hn)]
  | agg h1 h2 ih =>
    intro n hn
    cases n with
    | zero => simp [flatN] at hn
    | succ n => rw [arr_eq (β := β) h1 (fun j v v' hv hv' => ih j v v' hv hv' n (all_get (by simpa [flatN] using hn) hv))]
  | tuple h1 h2 ih =>
    intro n hn
    cases n with
    | zero => simp [flatN] at hn
    | succ n => rw [arr_eq (β := β) h1 (fun j v v' hv hv' => ih j v v' hv hv' n (all_get (by simpa [flatN] using hn) hv))]
  | _ => intro n hn; rfl
theorem VR.of_flat [Env] {β : Mp} : ∀ (n : Nat) (v : Value), flatN n v = true → VR β v v
  | 0, v, h => by simp [flatN] at h
  | n + 1, v, h => by
    have hc : ∀ (c : Array Value), c.toList.all (flatN n) = true → ∀ (j : Nat) (v v' : Value), c[j]? = some v → c[j]? = some v' → VR β v v' := fun c hc j v v' hv hv' => by
      rw [hv] at hv'; cases hv'
      exact VR.of_flat n v (all_get hc hv)
    cases v with
    | bool b => exact .bool b
    | int k m => exact .int k m
    | string s => exact .str s
    | pointer a => cases a with
      | none => exact .nilp
      | some a => simp [flatN] at h
    | slice a l c => cases a with
      | none => exact .nils l c
      | some a => simp [flatN] at h
    | map r => cases r with
      | none => exact .nilm
      | some a => simp [flatN] at h
    | nilFunc => exact .nilf
    | nilIface => exact .nili
    | func fn f c =>
      simp only [flatN, Bool.and_eq_true] at h
      exact .func fn rfl (hc f h.1) rfl (hc c h.2)
    | iface t v => exact .iface t (VR.of_flat n v (by simpa [flatN] using h))
    | agg c => exact .agg rfl (hc c (by simpa [flatN] using h))
    | tuple c => exact .tuple rfl (hc c (by simpa [flatN] using h))
    | _ => simp [flatN] at h
/-- Two lists, place by place. -/
def PW [Env] (β : Mp) (l l' : List Value) : Prop := l.length = l'.length ∧ ∀ (j : Nat) (v v' : Value), l[j]? = some v → l'[j]? = some v' → VR β v v'
theorem PW.nil [Env] (β : Mp) : PW β [] [] := ⟨rfl, fun j v v' h => by simp at h⟩
theorem PW.cons [Env] {β : Mp} {a a' : Value} {l l' : List Value} (h : VR β a a') (k : PW β l l') : PW β (a :: l) (a' :: l') :=
  ⟨by simp [k.1], fun j v v' hv hv' => by cases j with
    | zero => simp at hv hv'; subst hv; subst hv'; exact h
    | succ j => exact k.2 j v v' (by simpa using hv) (by simpa using hv')⟩
theorem PW.tail [Env] {β : Mp} {a a' : Value} {l l' : List Value} (h : PW β (a :: l) (a' :: l')) : VR β a a' ∧ PW β l l' :=
  ⟨h.2 0 a a' rfl rfl, by simpa using h.1, fun j v v' hv hv' => h.2 (j + 1) v v' (by simpa using hv) (by simpa using hv')⟩
theorem PW.nil_left [Env] {β : Mp} {l' : List Value} (h : PW β [] l') : l' = [] := by have := h.1; simpa using this.symm
theorem PW.cons_left [Env] {β : Mp} {a : Value} {l l' : List Value} (h : PW β (a :: l) l') : ∃ a' r', l' = a' :: r' ∧ VR β a a' ∧ PW β l r' := by
  cases l' with
  | nil => have := h.1; simp at this
  | cons a' r' => exact ⟨a', r', rfl, h.tail.1, h.tail.2⟩
theorem PW.mono [Env] {β β' : Mp} (he : ∀ i I, β i = some I → β' i = some I) {l l' : List Value} (h : PW β l l') : PW β' l l' := ⟨h.1, fun j v v' hv hv' => (h.2 j v v' hv hv').mono he⟩
theorem PW.append [Env] {β : Mp} {a a' b b' : List Value} (h : PW β a a') (k : PW β b b') : PW β (a ++ b) (a' ++ b') := by
  refine ⟨by simp [h.1, k.1], fun j v v' hv hv' => ?_⟩
  rw [List.getElem?_append] at hv hv'
  by_cases hj : j < a.length
  · rw [if_pos hj] at hv; rw [if_pos (h.1 ▸ hj)] at hv'; exact h.2 j v v' hv hv'
  · rw [if_neg hj] at hv; rw [if_neg (h.1 ▸ hj)] at hv'; rw [← h.1] at hv'; exact k.2 _ v v' hv hv'
theorem PW.take [Env] {β : Mp} {a a' : List Value} (h : PW β a a') (n : Nat) : PW β (a.take n) (a'.take n) := by
  refine ⟨by simp [h.1], fun j v v' hv hv' => ?_⟩
  rw [List.getElem?_take] at hv hv'
  split at hv
  · rename_i hj; rw [if_pos hj] at hv'; exact h.2 j v v' hv hv'
  · cases hv
theorem PW.drop [Env] {β : Mp} {a a' : List Value} (h : PW β a a') (n : Nat) : PW β (a.drop n) (a'.drop n) := by
  refine ⟨by simp [h.1], fun j v v' hv hv' => ?_⟩
  rw [List.getElem?_drop] at hv hv'
  exact h.2 _ v v' hv hv'
theorem PW.get [Env] {β : Mp} {a a' : List Value} (h : PW β a a') {j : Nat} {v : Value} (hv : a[j]? = some v) : ∃ v', a'[j]? = some v' ∧ VR β v v' := by
  have hj : j < a'.length := h.1 ▸ (List.getElem?_eq_some_iff.1 hv).1
  exact ⟨a'[j], List.getElem?_eq_getElem hj, h.2 j v _ hv (List.getElem?_eq_getElem hj)⟩
theorem PW.arr [Env] {β : Mp} {c c' : Array Value} (h : PW β c.toList c'.toList) : c.size = c'.size ∧ ∀ (j : Nat) (v v' : Value), c[j]? = some v → c'[j]? = some v' → VR β v v' :=
  ⟨by simpa using h.1, fun j v v' hv hv' => h.2 j v v' (by simpa using hv) (by simpa using hv')⟩
theorem PW.of_arr [Env] {β : Mp} {c c' : Array Value} (h1 : c.size = c'.size) (h2 : ∀ (j : Nat) (v v' : Value), c[j]? = some v → c'[j]? = some v' → VR β v v') : PW β c.toList c'.toList :=
  ⟨by simpa using h1, fun j v v' hv hv' => h2 j v v' (by simpa using hv) (by simpa using hv')⟩
theorem PW.agg [Env] {β : Mp} {l l' : List Value} (h : PW β l l') : VR β (.agg l.toArray) (.agg l'.toArray) := by
  have := PW.arr (β := β) (c := l.toArray) (c' := l'.toArray) (by simpa using h)
  exact .agg this.1 this.2
theorem PW.of_flat [Env] {β : Mp} {l : List Value} (h : l.all flat = true) : PW β l l :=
  ⟨rfl, fun j v v' hv hv' => by rw [hv] at hv'; cases hv'; rw [List.all_eq_true] at h; exact VR.of_flat 6 v (h v (List.mem_of_getElem? hv))⟩
theorem cells_one {v : Value} (h : v.oneCell' = true) : v.cells = #[v] := by
  cases v <;> first
    | rfl
    | cases h
theorem VR.cells [Env] {β : Mp} {v v' : Value} (h : VR β v v') : PW β v.cells.toList v'.cells.toList := by
  cases h with
  | opq j h1 h2 =>
    rw [cells_one h1]
    exact PW.cons (.opq j h1 h2) (PW.nil β)
  | agg h1 h2 => exact PW.of_arr h1 h2
  | bool b => exact PW.cons (.bool b) (PW.nil β)
  | int k n => exact PW.cons (.int k n) (PW.nil β)
  | str s => exact PW.cons (.str s) (PW.nil β)
  | nilp => exact PW.cons .nilp (PW.nil β)
  | ptr o h => exact PW.cons (.ptr o h) (PW.nil β)
  | nils l c => exact PW.cons (.nils l c) (PW.nil β)
  | sl o l c c' h h1 h2 h3 h4 => exact PW.cons (.sl o l c c' h h1 h2 h3 h4) (PW.nil β)
  | ssl o q l d c' h h1 h2 h3 h4 h5 h6 h7 => exact PW.cons (.ssl o q l d c' h h1 h2 h3 h4 h5 h6 h7) (PW.nil β)
  | ksl o l c c' h h1 h2 h3 => exact PW.cons (.ksl o l c c' h h1 h2 h3) (PW.nil β)
  | nilm => exact PW.cons .nilm (PW.nil β)
  | map h => exact PW.cons (.map h) (PW.nil β)
  | nilf => exact PW.cons .nilf (PW.nil β)
  | func fn h1 h2 h3 h4 => exact PW.cons (.func fn h1 h2 h3 h4) (PW.nil β)
  | iface t h => exact PW.cons (.iface t h) (PW.nil β)
  | nili => exact PW.cons .nili (PW.nil β)
  | tuple h1 h2 => exact PW.cons (.tuple h1 h2) (PW.nil β)
theorem VR.oneCell [Env] {β : Mp} {v v' : Value} (h : VR β v v') : v'.oneCell' = v.oneCell' := by
  cases h with
  | opq j h1 h2 => exact h1
  | _ => rfl
theorem PW.oneCell [Env] {β : Mp} {l l' : List Value} (h : PW β l l') (k : l.all (·.oneCell') = true) : ∀ v ∈ l', v.oneCell' = true := by
  intro v' hv'
  obtain ⟨j, hj⟩ := List.getElem?_of_mem hv'
  have hl : j < l.length := h.1 ▸ (List.getElem?_eq_some_iff.1 hj).1
  rw [(h.2 j _ v' (List.getElem?_eq_getElem hl) hj).oneCell]
  rw [List.all_eq_true] at k
  exact k _ (List.getElem_mem hl)
/-! ### The world -/
structure Keep (N : Nat) (w w' : World) : Prop where
  os : w'.os = w.os
  tape : w'.tape = w.tape
  output : w'.output = w.output
  size : w.heap.size ≤ w'.heap.size
  block : ∀ k, k < N → w'.heap[k]? = w.heap[k]?
theorem Keep.refl (N : Nat) (w : World) : Keep N w w := ⟨rfl, rfl, rfl, Nat.le_refl _, fun _ _ => rfl⟩
theorem Keep.trans {N : Nat} {a b c : World} (h : Keep N a b) (k : Keep N b c) : Keep N a c :=
  ⟨k.os.trans h.os, k.tape.trans h.tape, k.output.trans h.output, Nat.le_trans h.size k.size, fun i hi => (k.block i hi).trans (h.block i hi)⟩
theorem Keep.drew {N : Nat} (w : World) : Keep N w w.drew := ⟨rfl, rfl, rfl, Nat.le_refl _, fun _ _ => rfl⟩
theorem Keep.alloc {N : Nat} (w : World) (hN : N ≤ w.heap.size) (o : Obj) : Keep N w (w.alloc o) :=
  ⟨rfl, rfl, rfl, by simp, fun k hk => heap_alloc_old w o (by omega)⟩
theorem heap_setCells_other (b : Nat) (k : Nat) (hk : k ≠ b) : ∀ (vs : List Value) (o : Nat) (w : World), (w.setCells b o vs).heap[k]? = w.heap[k]?
  | [], _, _ => rfl
  | v :: r, o, w => (heap_setCells_other b k hk r (o + 1) _).trans (heap_setCell_other w ⟨b, o, none⟩ k v hk)
theorem size_setCells' (b : Nat) : ∀ (vs : List Value) (o : Nat) (w : World), (w.setCells b o vs).heap.size = w.heap.size
  | [], _, _ => rfl
  | v :: r, o, w => (size_setCells' b r (o + 1) _).trans (by simp [World.setCell])
theorem Keep.setCells [Env] {N : Nat} (b : Nat) (hb : N ≤ b) : ∀ (vs : List Value) (o : Nat) (w : World), Keep N w (w.setCells b o vs)
  | [], _, w => Keep.refl N w
  | v :: r, o, w => (⟨rfl, rfl, rfl, by simp [World.setCell], fun k hk => heap_setCell_other w ⟨b, o, none⟩ k v (by simp; omega)⟩ : Keep N w (w.setCell ⟨b, o, none⟩ v)).trans (Keep.setCells b hb r (o + 1) _)
/-- None of its cells is frozen; the place behind the last one may be. -/
def FZ (P : Program) (t : TypeId) (w : World) (b : Nat) : Prop := ∃ C te fr, w.heap[b]? = some (.cells C te fr) ∧ te = t ∧ (fr = (0, 0) ∨ (fr = (C.size, C.size + 1) ∧ P.underlying t = some (.int .u8)))
theorem FZ.setCell {P : Program} {t : TypeId} {w : World} {b : Nat} (h : FZ P t w b) (o : Nat) (v : Value) : FZ P t (w.setCell ⟨b, o, none⟩ v) b := by
  obtain ⟨C, te, fr, h1, h2⟩ := h
  refine ⟨C.setIfInBounds o v, te, fr, ?_, by simpa using h2⟩
  simp [World.setCell, Array.getElem?_modify, h1]
theorem FZ.setCells {P : Program} {t : TypeId} {b : Nat} : ∀ (vs : List Value) (o : Nat) {w : World}, FZ P t w b → FZ P t (w.setCells b o vs) b
  | [], _, _, h => h
  | v :: r, o, _, h => FZ.setCells r (o + 1) (h.setCell o v)
/-- Cells that are not looked into, from the first on. -/
def Cs.isSym : Cs → Bool
  | .sym _ _ _ _ => true
  | _ => false
/-- An object that is only read: it may lie in a block that was there. -/
def Ao.ro : Ao → Bool
  | .row C _ _ => C.isSym
  | _ => false
theorem Cs.put_sym {f : Nat} {C C' : Cs} {o : Nat} {xs : List Value} (h : Cs.put f C o xs = some C') : C.isSym = false := by
  cases C <;> first
    | rfl
    | (cases f <;> cases h)
theorem nosym {C : Cs} (h : C.isSym = false) {p : Prop} (k : C.isSym = true ∨ p) : p := k.resolve_left (by rw [h]; exact Bool.false_ne_true)
def ObR [Env] (P : Program) (β : Mp) (w : World) (I : Im) : Ao → Prop
  | .row C t g => C.ok ∧ ∃ vs, PW β C.list vs ∧ C.list.length = I.n ∧ w.rangeAt I.blk I.base vs ∧ (C.isSym = true ∨ w.there I.blk I.base (I.n + I.room)) ∧
      (g = false → (I.room = 0 ∨ I.sz = 0) ∧ ((P.info? t).map (·.size) = some 1 ∨ I.base = 0)) ∧ ((g = true → (P.info? t).map (·.size) = some I.sz ∧ 0 < I.sz) ∧ (C.isSym = true ∨ FZ P t w I.blk))
  | .map es clk => ∃ es' : Array MapEntry, w.heap[I.blk]? = some (.map es' clk) ∧ I.base = 0 ∧ es'.size = es.length ∧
      ∀ (j : Nat) (e e' : MapEntry), es[j]? = some e → es'[j]? = some e' → VR β e.key e'.key ∧ VR β e.val e'.val ∧ e'.born = e.born
  | .iter s p => w.heap[I.blk]? = some (.stringIter s p) ∧ I.base = 0
  | .mapIt m since seen last => I.base = 0 ∧ ∃ m', w.heap[I.blk]? = some (.mapIter m' since seen.toArray last) ∧ ((m = none ∧ m' = none) ∨ ∃ i J, m = some i ∧ β i = some J ∧ m' = some J.blk)
structure Sim [Env] (P : Program) (N : Nat) (β : Mp) (h : Tr) (w : World) : Prop where
  obj : ∀ i o, Tr.get dep h i = some o → ∃ I, β i = some I ∧ (o.ro = true ∨ N ≤ I.blk) ∧ I.blk < w.heap.size ∧ ObR P β w I o
  inj : ∀ i j o o' I J, Tr.get dep h i = some o → Tr.get dep h j = some o' → β i = some I → β j = some J → i ≠ j → I.blk ≠ J.blk ∨ (o.ro = true ∧ o'.ro = true)
theorem Sim.far [Env] {P : Program} {N : Nat} {β : Mp} {h : Tr} {w : World} (hs : Sim P N β h w) {i j : Nat} {o o' : Ao} {I J : Im} (hr : o.ro = false) (hj : Tr.get dep h j = some o') (hi : Tr.get dep h i = some o) (hJ : β j = some J) (hI : β i = some I) (hne : j ≠ i) : J.blk ≠ I.blk := by
  rcases hs.inj j i _ _ _ _ hj hi hJ hI hne with h | ⟨_, h⟩
  · exact h
  · rw [hr] at h; cases h
theorem Sim.far' [Env] {P : Program} {N : Nat} {β : Mp} {h : Tr} {w : World} (hs : Sim P N β h w) {i j : Nat} {o o' : Ao} {I J : Im} (hj : Tr.get dep h j = some o') (hi : Tr.get dep h i = some o) (hJ : β j = some J) (hI : β i = some I) (hne : j ≠ i) (hr : o.ro = false) : J.blk ≠ I.blk := hs.far hr hj hi hJ hI hne
theorem Sim.near [Env] {P : Program} {N : Nat} {β : Mp} {h : Tr} {w : World} (hs : Sim P N β h w) {i : Nat} {o : Ao} (hi : Tr.get dep h i = some o) : ∃ I, β i = some I ∧ (o.ro = false → N ≤ I.blk) ∧ I.blk < w.heap.size ∧ ObR P β w I o := by
  obtain ⟨I, h1, h2, h3, h4⟩ := hs.obj i o hi
  exact ⟨I, h1, fun hr => h2.resolve_left (by rw [hr]; exact Bool.false_ne_true), h3, h4⟩
theorem rangeAt_block {w w' : World} {b o : Nat} {vs : List Value} (h : w.rangeAt b o vs) (he : w'.heap[b]? = w.heap[b]?) : w'.rangeAt b o vs := fun j v hv => by
  rw [World.cell?_of_block (w := w) (a := ⟨b, o + j, none⟩) he]; exact h j v hv
theorem there_block {w w' : World} {b o n : Nat} (h : w.there b o n) (he : w'.heap[b]? = w.heap[b]?) : w'.there b o n := fun j hj => by
  rw [World.cell?_of_block (w := w) (a := ⟨b, o + j, none⟩) he, World.frozen?_of_block (w := w) (a := ⟨b, o + j, none⟩) he]; exact h j hj
theorem ObR.keep [Env] {P : Program} {β β' : Mp} {w w' : World} {I : Im} {o : Ao} (h : ObR P β w I o) (hb : ∀ i I, β i = some I → β' i = some I) (he : w'.heap[I.blk]? = w.heap[I.blk]?) : ObR P β' w' I o := by
  cases o with
  | row C t g =>
    obtain ⟨hok, vs, h1, h2, h3, h4, h5, h6⟩ := h
    obtain ⟨h6, h7⟩ := h6
    refine ⟨hok, vs, h1.mono hb, h2, rangeAt_block h3 he, h4.imp id fun h4 => there_block h4 he, h5, h6, h7.imp id ?_⟩
    rintro ⟨C', te, fr, k1, k2⟩
    exact ⟨C', te, fr, he.trans k1, k2⟩
  | iter s p => exact ⟨he.trans h.1, h.2⟩
  | mapIt m since seen last =>
    obtain ⟨h1, m', h2, h3⟩ := h
    refine ⟨h1, m', he.trans h2, ?_⟩
    rcases h3 with h3 | ⟨i, J, k1, k2, k3⟩
    · exact .inl h3
    · exact .inr ⟨i, J, k1, hb _ _ k2, k3⟩
  | map es clk =>
    obtain ⟨es', h1, h2, h3, h4⟩ := h
    exact ⟨es', he.trans h1, h2, h3, fun j e e' he he' => let ⟨a, b, c⟩ := h4 j e e' he he'; ⟨a.mono hb, b.mono hb, c⟩⟩
structure Ext (c c' : Nat) (β β' : Mp) : Prop where
  old : ∀ i I, β i = some I → β' i = some I
  new : ∀ i, β' i ≠ β i → c ≤ i ∧ i < c'
theorem Ext.refl (c c' : Nat) (β : Mp) : Ext c c' β β := ⟨fun _ _ h => h, fun _ h => absurd rfl h⟩
theorem Ext.trans {c c1 c2 : Nat} {β β1 β2 : Mp} (h : Ext c c1 β β1) (k : Ext c1 c2 β1 β2) (h1 : c ≤ c1) (h2 : c1 ≤ c2) : Ext c c2 β β2 :=
  ⟨fun i I hi => k.old i I (h.old i I hi), fun i hi => by
    by_cases e : β1 i = β i
    · rw [← e] at hi; have := k.new i hi; omega
    · have := h.new i e; omega⟩
theorem Sim.upd [Env] {P : Program} {N : Nat} {β β' : Mp} {h h' : Tr} {w w' : World} (hs : Sim P N β h w) (hw : w.heap.size ≤ w'.heap.size) (i : Nat) (x : Option Ao)
    (hg : ∀ j, Tr.get dep h' j = if j = i then x else Tr.get dep h j) (hb : ∀ i I, β i = some I → β' i = some I)
    (hx : ∀ o, x = some o → ∃ I, β' i = some I ∧ N ≤ I.blk ∧ I.blk < w'.heap.size ∧ ObR P β' w' I o ∧ ∀ j o' J, j ≠ i → Tr.get dep h j = some o' → β j = some J → J.blk ≠ I.blk)
    (hold : ∀ j o J, j ≠ i → Tr.get dep h j = some o → β j = some J → w'.heap[J.blk]? = w.heap[J.blk]?) : Sim P N β' h' w' := by
  have key : ∀ j o, j ≠ i → Tr.get dep h j = some o → ∃ J, β j = some J ∧ β' j = some J ∧ (o.ro = true ∨ N ≤ J.blk) ∧ J.blk < w'.heap.size ∧ ObR P β' w' J o := fun j o hj hjo => by
    obtain ⟨J, h1, h2, h3, h4⟩ := hs.obj j o hjo
    exact ⟨J, h1, hb _ _ h1, h2, by omega, h4.keep hb (hold j o J hj hjo h1)⟩
  refine ⟨fun j o hj => ?_, fun j k o o' J K hj hk hJ hK hne => ?_⟩
  · rw [hg] at hj
    split at hj
    · rename_i e; subst e
      obtain ⟨I, h1, h2, h3, h4, _⟩ := hx o hj
      exact ⟨I, h1, .inr h2, h3, h4⟩
    · rename_i e
      obtain ⟨J, _, h1, h2, h3, h4⟩ := key j o e hj
      exact ⟨J, h1, h2, h3, h4⟩
  · rw [hg] at hj hk
    split at hj
    · rename_i e; subst e
      rw [if_neg (Ne.symm hne)] at hk
      obtain ⟨I, h1, _, _, _, h5⟩ := hx o hj
      obtain ⟨K', k1, k2, _⟩ := key k o' (Ne.symm hne) hk
      rw [h1] at hJ; cases hJ
      rw [k2] at hK; cases hK
      exact .inl (h5 k o' _ (Ne.symm hne) hk k1).symm
    · rename_i e
      obtain ⟨J', j1, j2, _⟩ := key j o e hj
      rw [j2] at hJ; cases hJ
      split at hk
      · rename_i e2; subst e2
        obtain ⟨I, h1, _, _, _, h5⟩ := hx o' hk
        rw [h1] at hK; cases hK
        exact .inl (h5 j o _ hne hj j1)
      · rename_i e2
        obtain ⟨K', k1, k2, _⟩ := key k o' e2 hk
        rw [k2] at hK; cases hK
        exact hs.inj j k o o' _ _ hj hk j1 k1 hne
theorem Sim.heap [Env] {P : Program} {N : Nat} {β : Mp} {h : Tr} {w w' : World} (hs : Sim P N β h w) (he : w'.heap = w.heap) : Sim P N β h w' :=
  ⟨fun i o hi => let ⟨I, h1, h2, h3, h4⟩ := hs.obj i o hi; ⟨I, h1, h2, by rw [he]; exact h3, h4.keep (fun _ _ h => h) (by rw [he])⟩, hs.inj⟩
/-- What a computation and a piece of the model's have to do with one another. -/
def RunS [Env] (P : Program) (N : Nat) (β : Mp) (m : Comp Value) (s : Sem Value) : Prop := ∀ c h o w, m c h = some o → Sim P N β h w → N ≤ w.heap.size → (∀ i, c ≤ i → i < o.c → β i = none) →
  ∃ v' w' β', s.run P w = .ok v' w' ∧ Ext c o.c β β' ∧ Sim P N β' o.h w' ∧ VR β' o.a v' ∧ Keep N w w'
theorem RunS.fail [Env] {P : Program} {N : Nat} {β : Mp} {s : Sem Value} : RunS P N β fail s := fun c h o w he => by cases he
theorem RunS.pure [Env] {P : Program} {N : Nat} {β : Mp} {s : Sem Value} {v v' : Value} (hv : VR β v v') (hr : ∀ w, s.run P w = .ok v' w) : RunS P N β (ret v) s := fun c h o w he hs hN hf => by
  simp only [ret, Option.some.injEq] at he; subst he
  exact ⟨v', w, β, hr w, Ext.refl _ _ _, hs, hv, Keep.refl _ _⟩
/-- A new object. -/
theorem Sim.alloc [Env] {P : Program} {N : Nat} {β : Mp} {h h' : Tr} {w : World} (hs : Sim P N β h w) (hN : N ≤ w.heap.size) {c : Nat} {x : Ao} (ho : Tr.set dep h c (some x) = some h') (hf : β c = none) (I : Im) (hI : I.blk = w.heap.size) (ob : Obj)
    (hx : ∀ β' : Mp, (∀ i I, β i = some I → β' i = some I) → ObR P β' (w.alloc ob) I x) :
    let β' : Mp := fun i => if i = c then some I else β i
    Ext c (c + 1) β β' ∧ Sim P N β' h' (w.alloc ob) ∧ β' c = some I := by
  intro β'
  have hb : ∀ i J, β i = some J → β' i = some J := fun i J hi => by
    show (if i = c then some I else β i) = some J
    rw [if_neg (by rintro rfl; rw [hf] at hi; cases hi)]; exact hi
  refine ⟨⟨hb, fun i hi => ?_⟩, ?_, if_pos rfl⟩
  · by_cases e : i = c
    · omega
    · exact absurd (if_neg e) hi
  · refine hs.upd (by simp) c (some x) (Tr.get_set _ _ _ _ _ ho) hb (fun o he => ?_) (fun j o J hj hjo hJ => ?_)
    · cases he
      refine ⟨I, if_pos rfl, by omega, by simp; omega, hx β' hb, fun j o' J hj hjo hJ => ?_⟩
      obtain ⟨J', h1, _, h3, _⟩ := hs.obj j o' hjo
      rw [hJ] at h1; cases h1
      omega
    · obtain ⟨J', h1, _, h3, _⟩ := hs.obj j o hjo
      rw [hJ] at h1; cases h1
      exact heap_alloc_old w ob h3
/-- The cells of a row that is new. -/
theorem ObR.new [Env] {P : Program} {β : Mp} {w : World} {C : Cs} {vs : List Value} {t : TypeId} (hok : C.ok) (hp : PW β C.list vs) {I : Im} (h1 : I.blk = w.heap.size) (h2 : I.base = 0) (h3 : I.n = C.list.length) (h4 : I.room = 0) :
    ObR P β (w.alloc (.cells vs.toArray t)) I (.row C t false) := by
  have hb : (w.alloc (.cells vs.toArray t)).heap[w.heap.size]? = some (.cells vs.toArray t (0, 0)) := heap_alloc_new w _
  refine ⟨hok, vs, hp, h3.symm, fun j v hv => ?_, .inr fun j hj => ?_, fun _ => ⟨.inl h4, .inr h2⟩, (fun h => by cases h), .inr ⟨vs.toArray, t, (0, 0), by rw [h1]; exact hb, rfl, .inl rfl⟩⟩
  · rw [h1, h2, cell_of_row _ _ _ _ _ _ hb]; simpa using hv
  · rw [h1, h2, cell_of_row _ _ _ _ _ _ hb, frozen_of_row _ _ _ _ _ hb]
    refine ⟨?_, rfl⟩
    have : 0 + j < vs.length := by rw [← hp.1]; omega
    simp [this]
    omega
end Go.Proofs.Ytdpmjghdmpaehaa.ev
