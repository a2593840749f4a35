/-
  A region whose order is drawn: whichever order, it comes to what the order of the text comes to. Conditions: none.
-/
import Derived.Test.YtdpmjghdmpaehaaEvK
namespace Go.Proofs.Ytdpmjghdmpaehaa.ev
set_option linter.unusedVariables false
set_option linter.unusedSimpArgs false
variable {P : Program} {N : Nat} {β : Mp}
/-- What is known of a state when the steps in D have been taken: a place that all writers ahead of k have written, and none from k on, is as in the text ahead of k. -/
def Good {X V : Type} (n : Nat) (T : Nat → X → V) (W : Nat → X → Prop) (D : Nat → Prop) (s : X → V) : Prop :=
  ∀ x k, k ≤ n → (∀ m, m < k → W m x → D m) → (∀ m, m < n → k ≤ m → D m → ¬ W m x) → s x = T k x
theorem T_same {X V : Type} {n : Nat} {T : Nat → X → V} {W : Nat → X → Prop} (hT : ∀ k, k < n → ∀ x, ¬ W k x → T (k + 1) x = T k x) {x : X} {i : Nat} : ∀ d, i + d ≤ n → (∀ m, i ≤ m → m < i + d → ¬ W m x) → T (i + d) x = T i x
  | 0, _, _ => rfl
  | d + 1, h1, h2 => by
    rw [show i + (d + 1) = (i + d) + 1 from by omega, hT (i + d) (by omega) x (h2 _ (by omega) (by omega))]
    exact T_same hT d (by omega) (fun m a b => h2 m a (by omega))
theorem Good.start [Env] {X V : Type} {n : Nat} {T : Nat → X → V} {W : Nat → X → Prop} (hT : ∀ k, k < n → ∀ x, ¬ W k x → T (k + 1) x = T k x) {D : Nat → Prop} (hD : ∀ m, m < n → ¬ D m) {s : X → V} (hs : ∀ x, s x = T 0 x) : Good n T W D s := fun x k hk h1 h2 => by
  rw [hs]
  have := T_same hT (x := x) (i := 0) k (by omega) (fun m _ hm hw => hD m (by omega) (h1 m (by omega) hw))
  rw [Nat.zero_add] at this
  exact this.symm
theorem Good.next [Env] {X V : Type} {n : Nat} {T : Nat → X → V} {W : Nat → X → Prop} (hT : ∀ k, k < n → ∀ x, ¬ W k x → T (k + 1) x = T k x) {D D' : Nat → Prop} {k0 : Nat} (hk0 : k0 < n) (hD' : ∀ m, m < n → (D' m ↔ (D m ∨ m = k0))) (hn : ¬ D k0)
    (hc : ∀ m x, m < n → k0 < m → D m → W k0 x → ¬ W m x) {s s' : X → V} (hg : Good n T W D s) (h1 : ∀ x, W k0 x → s' x = T (k0 + 1) x) (h2 : ∀ x, ¬ W k0 x → s' x = s x) : Good n T W D' s' := fun x k hk a b => by
  by_cases hw : W k0 x
  · have hlt : k0 < k := by
      rcases Nat.lt_or_ge k0 k with h | h
      · exact h
      · exact absurd hw (b k0 hk0 h ((hD' k0 hk0).2 (.inr rfl)))
    rw [h1 x hw]
    have := T_same hT (x := x) (i := k0 + 1) (k - (k0 + 1)) (by omega) (fun m c d hm => by
      have hmn : m < n := by omega
      have := (hD' m hmn).1 (a m (by omega) hm)
      rcases this with this | this
      · exact hc m x hmn (by omega) this hw hm
      · omega)
    rw [show k0 + 1 + (k - (k0 + 1)) = k from by omega] at this
    exact this.symm
  · rw [h2 x hw]
    refine hg x k hk (fun m c d => ?_) (fun m c d e => b m c d ((hD' m c).2 (.inl e)))
    rcases (hD' m (by omega)).1 (a m c d) with h | h
    · exact h
    · subst h; exact absurd d hw
theorem countP_lt {p q : Nat → Bool} (hqp : ∀ j, q j = true → p j = true) {i : Nat} (hp : p i = true) (hq : q i = false) : ∀ (l : List Nat), i ∈ l → l.countP q < l.countP p
  | [], h => by cases h
  | a :: l, h => by
    have hle : l.countP q ≤ l.countP p := List.countP_mono_left fun x _ hx => hqp x hx
    rw [List.countP_cons, List.countP_cons]
    rcases List.mem_cons.1 h with rfl | h
    · rw [hp, hq]; simp; omega
    · have := countP_lt hqp hp hq l h
      by_cases hqa : q a = true
      · rw [hqa, hqp a hqa]; simp; omega
      · rw [Bool.not_eq_true] at hqa
        rw [hqa]
        simp only [Bool.false_eq_true, if_false, Nat.add_zero]
        omega
theorem land_zero [Env] {a b : Nat} (h : Nat.beq (Nat.land a b) 0 = true) (i : Nat) : ¬ (a.testBit i = true ∧ b.testBit i = true) := fun ⟨h1, h2⟩ => by
  have := Nat.of_beq h
  have e : (Nat.land a b).testBit i = (a.testBit i && b.testBit i) := Nat.testBit_and a b i
  rw [this, h1, h2] at e
  simp at e
theorem testBit_range (c c' i : Nat) (h : c ≤ c') : (2 ^ c' - 2 ^ c).testBit i = true ↔ (c ≤ i ∧ i < c') := by
  have e : 2 ^ c' - 2 ^ c = (2 ^ (c' - c) - 1) <<< c := by
    rw [Nat.shiftLeft_eq, Nat.sub_mul, ← Nat.pow_add, Nat.one_mul, Nat.sub_add_cancel h]
  rw [e, Nat.testBit_shiftLeft]
  simp only [ge_iff_le, Bool.and_eq_true, decide_eq_true_eq, Nat.testBit_two_pow_sub_one]
  omega
section
variable {call : CallF} {ops : Array Oper} {n : Nat} {A : Nat → Act} {C : Nat → Nat} {H : Nat → Tr} {p : Nat → Out Value} {R : Nat → Rec}
def Wh (C : Nat → Nat) (p : Nat → Out Value) (k i : Nat) : Prop := (p k).w.testBit i = true ∨ (C k ≤ i ∧ i < (p k).c)
def Ws (ops : Array Oper) (k t : Nat) : Prop := ∃ o, ops[k]? = some o ∧ o.dst = some t
theorem Trace.heap [Env] (T : Trace P call ops 0 n A C H p R) (hcall : ∀ k args, Local (call k args)) : ∀ k, k < n → ∀ i, ¬ Wh C p k i → Tr.get dep (H (k + 1)) i = Tr.get dep (H k) i := fun k hk i hw => by
  obtain ⟨o, h1, h2, h3, h4, h5, h6, h7⟩ := T.step k (Nat.zero_le _) hk
  obtain ⟨l1, l2, l3⟩ := stepOp_loc hcall (C k) (H k) (p k) h2
  rw [h5]
  refine l2 i ?_ ?_
  · cases hh : (p k).w.testBit i with
    | true => exact absurd (.inl hh) hw
    | false => rfl
  · have : ¬ (C k ≤ i ∧ i < (p k).c) := fun hh => hw (.inr hh)
    omega
theorem put_defers (a : Act) (d : Option Tmp) (v : Value) : (a.put d v).defers = a.defers := by cases d <;> rfl
theorem put_getD (a : Act) (d : Option Tmp) (v : Value) (t : Nat) (h : d ≠ some t) : (a.put d v).tmps.getD t undef = a.tmps.getD t undef := by
  cases d with
  | none => rfl
  | some d =>
    have : d ≠ t := fun e => h (by rw [e])
    simp [Act.put, Array.getElem?_setIfInBounds_ne this]
theorem put_same (a b : Act) (t : Tmp) (v : Value) (hs : a.tmps.size = b.tmps.size) : (a.put (some t) v).tmps.getD t undef = (b.put (some t) v).tmps.getD t undef := by
  simp only [Act.put, Array.getD_eq_getD_getElem?, Array.getElem?_setIfInBounds]
  simp [hs]
theorem put_size (a : Act) (d : Option Tmp) (v : Value) : (a.put d v).tmps.size = a.tmps.size := by cases d <;> simp [Act.put]
theorem Trace.slots [Env] (T : Trace P call ops 0 n A C H p R) : ∀ k, k < n → ∀ t, ¬ Ws ops k t → (A (k + 1)).tmps.getD t undef = (A k).tmps.getD t undef := fun k hk t hw => by
  obtain ⟨o, h1, h2, h3, h4, h5, h6, h7⟩ := T.step k (Nat.zero_le _) hk
  rw [h3]
  exact put_getD _ _ _ _ (fun e => hw ⟨o, h1, e⟩)
theorem Trace.size [Env] (T : Trace P call ops 0 n A C H p R) : ∀ k, k ≤ n → (A k).tmps.size = (A 0).tmps.size
  | 0, _ => rfl
  | k + 1, hk => by
    obtain ⟨o, h1, h2, h3, h4, h5, h6, h7⟩ := T.step k (Nat.zero_le _) (by omega)
    rw [h3, put_size]
    exact Trace.size T k (by omega)
theorem Trace.cnt [Env] (T : Trace P call ops 0 n A C H p R) (hcall : ∀ k args, Local (call k args)) {k : Nat} (hk : k < n) : C k ≤ (p k).c ∧ C (k + 1) = (p k).c := by
  obtain ⟨o, h1, h2, h3, h4, h5, h6, h7⟩ := T.step k (Nat.zero_le _) hk
  exact ⟨(stepOp_loc hcall (C k) (H k) (p k) h2).1, h4⟩
theorem Trace.mono [Env] (T : Trace P call ops 0 n A C H p R) (hcall : ∀ k args, Local (call k args)) {j : Nat} : ∀ d, j + d ≤ n → C j ≤ C (j + d)
  | 0, _ => Nat.le_refl _
  | d + 1, h => by
    have := T.cnt hcall (k := j + d) (by omega)
    have := Trace.mono T hcall (j := j) d (by omega)
    rw [show j + (d + 1) = j + d + 1 from rfl]
    omega
/-- Steps that have to do with one another are held apart. -/
theorem Trace.conf [Env] (T : Trace P call ops 0 n A C H p R) (hcall : ∀ k args, Local (call k args)) {j k : Nat} (hjk : j < k) (hk : k < n) :
    Dep ops k j ∨ ((∀ i, Wh C p j i → ¬ (p k).r.testBit i = true ∧ ¬ Wh C p k i) ∧ (∀ i, (p j).r.testBit i = true → ¬ Wh C p k i) ∧ (∀ t o, ops[k]? = some o → Ws ops j t → t ∉ o.looksAt ops ∧ ¬ Ws ops k t) ∧ (∀ t o, ops[j]? = some o → t ∈ o.looksAt ops → ¬ Ws ops k t)) := by
  obtain ⟨o, h1, h2, h3, h4, h5, h6, h7⟩ := T.step k (Nat.zero_le _) hk
  obtain ⟨o', k1, k2, k3, k4, k5, k6, k7⟩ := T.step j (Nat.zero_le _) (by omega)
  have hc := T.comp k j (Nat.zero_le _) hk hjk
  unfold compat at hc
  rw [Bool.or_eq_true] at hc
  rcases hc with hc | hc
  · left
    have : (R j).k = j := by rw [k7]
    rw [this] at hc
    exact T.anc k j hk hc
  · right
    simp only [Bool.and_eq_true] at hc
    obtain ⟨c1, c2, c3, c4⟩ := hc
    have wk : ∀ k, k < n → ∀ i, (R k).w.testBit i = true ↔ Wh C p k i := fun k hk i => by
      obtain ⟨o, h1, h2, h3, h4, h5, h6, h7⟩ := T.step k (Nat.zero_le _) hk
      have : (R k).w = Nat.lor (p k).w (2 ^ (p k).c - 2 ^ C k) := by rw [h7]
      rw [this, testBit_lor, Bool.or_eq_true, testBit_range _ _ _ (T.cnt hcall hk).1]
      rfl
    have rk : ∀ k, k < n → ∀ i, (R k).r.testBit i = true ↔ (p k).r.testBit i = true := fun k hk i => by
      obtain ⟨o, h1, h2, h3, h4, h5, h6, h7⟩ := T.step k (Nat.zero_le _) hk
      rw [h7]
    have swk : ∀ k, k < n → ∀ t, (R k).sw.testBit t = true ↔ Ws ops k t := fun k hk t => by
      obtain ⟨o, h1, h2, h3, h4, h5, h6, h7⟩ := T.step k (Nat.zero_le _) hk
      have : (R k).sw = swOf o := by rw [h7]
      rw [this]
      unfold swOf Ws
      constructor
      · intro hb
        cases hd : o.dst with
        | none => rw [hd] at hb; simp at hb
        | some d => rw [hd] at hb; exact ⟨o, h1, by rw [hd, (testBit_bit d t).1 hb]⟩
      · rintro ⟨o2, g1, g2⟩
        rw [h1] at g1; cases g1
        rw [g2]; exact (testBit_bit t t).2 rfl
    have srk : ∀ k, k < n → ∀ o, ops[k]? = some o → ∀ t, (R k).sr.testBit t = true ↔ t ∈ o.looksAt ops := fun k hk o2 ho2 t => by
      obtain ⟨o, h1, h2, h3, h4, h5, h6, h7⟩ := T.step k (Nat.zero_le _) hk
      rw [h1] at ho2; cases ho2
      rw [h7]; exact testBit_bits _ _
    have hj : j < n := by omega
    refine ⟨fun i hw => ?_, fun i hr hw => ?_, fun t o2 ho2 hw => ?_, fun t o2 ho2 hr hw => ?_⟩
    · have := land_zero c1 i
      rw [testBit_lor, Bool.or_eq_true, wk j hj, rk k hk, wk k hk] at this
      exact ⟨fun h => this ⟨hw, .inl h⟩, fun h => this ⟨hw, .inr h⟩⟩
    · exact land_zero c2 i ⟨(rk j hj i).2 hr, (wk k hk i).2 hw⟩
    · have := land_zero c3 t
      rw [testBit_lor, Bool.or_eq_true, swk j hj, srk k hk o2 ho2, swk k hk] at this
      exact ⟨fun h => this ⟨hw, .inl h⟩, fun h => this ⟨hw, .inr h⟩⟩
    · exact land_zero c4 t ⟨(srk j hj o2 ho2 t).2 hr, (swk k hk t).2 hw⟩
def Closed (ops : Array Oper) (D : Nat → Prop) : Prop := ∀ k o e, ops[k]? = some o → e ∈ o.after → Region.binds .any e = true → D k → D e.on
theorem Closed.dep {D : Nat → Prop} (h : Closed ops D) {k j : Nat} (hd : Dep ops k j) : D k → D j := by
  induction hd with
  | edge h1 h2 h3 => exact h _ _ _ h1 h2 h3
  | trans _ _ ih1 ih2 => exact fun hk => ih2 (ih1 hk)
theorem ready_dep [Env] {D : Nat → Prop} (h : Closed ops D) {k j : Nat} (hr : ∀ o e, ops[k]? = some o → e ∈ o.after → Region.binds .any e = true → D e.on) (hd : Dep ops k j) : D j := by
  induction hd with
  | edge h1 h2 h3 => exact hr _ _ h1 h2 h3
  | trans _ d2 ih1 _ => exact h.dep d2 (ih1 hr)
theorem arr_of_getD {x y : Array Value} (hs : x.size = y.size) (h : ∀ t, x.getD t undef = y.getD t undef) : x = y := by
  apply Array.ext hs
  intro i h1 h2
  have := h i
  simpa [Array.getD, h1, h2] using this
set_option maxHeartbeats 1000000 in
theorem any_loop [Env] (hcall : CallOK P N call) (T : Trace P call ops 0 n A C H p R) (hn : n = ops.size) {β0 : Mp} {w0 : World} (hf0 : ∀ i, C 0 ≤ i → i < C n → β0 i = none) {Q : Exit → Act → World → Prop} (hd0 : ∀ k, k ≤ n → (A k).defers = (A 0).defers)
    (hQ : ∀ ar' w' β', Ext (C 0) (C n) β0 β' → Sim P N β' (H n) w' → AR β' (A n) ar' → Keep N w0 w' → Q .normal ar' w') :
    ∀ (fuel : Nat) (listed : Array Bool) (a ar : Act) (h : Tr) (w : World) (β : Mp), listed.size = n → (List.range n).countP (fun j => !listed.getD j true) ≤ fuel → Closed ops (fun j => listed.getD j false = true) →
      Good n (fun k t => (A k).tmps.getD t undef) (Ws ops) (fun j => listed.getD j false = true) (fun t => a.tmps.getD t undef) →
      Good n (fun k i => Tr.get dep (H k) i) (Wh C p) (fun j => listed.getD j false = true) (fun i => Tr.get dep h i) →
      a.tmps.size = (A 0).tmps.size → a.defers = (A 0).defers → Sim P N β h w → AR β a ar → Keep N w0 w → N ≤ w.heap.size → (∀ i I, β0 i = some I → β i = some I) → (∀ i, β i ≠ β0 i → ∃ j, j < n ∧ listed.getD j false = true ∧ C j ≤ i ∧ i < (p j).c) →
      wpAny P .any ops Q fuel listed ar w := by
  have cnt := fun {k} => T.cnt hcall.loc (k := k)
  -- all have been taken
  have fin : ∀ (listed : Array Bool) (a ar : Act) (h : Tr) (w : World) (β : Mp), (∀ j, j < n → listed.getD j false = true) →
      Good n (fun k t => (A k).tmps.getD t undef) (Ws ops) (fun j => listed.getD j false = true) (fun t => a.tmps.getD t undef) →
      Good n (fun k i => Tr.get dep (H k) i) (Wh C p) (fun j => listed.getD j false = true) (fun i => Tr.get dep h i) →
      a.tmps.size = (A 0).tmps.size → a.defers = (A 0).defers → Sim P N β h w → AR β a ar → Keep N w0 w → (∀ i I, β0 i = some I → β i = some I) → (∀ i, β i ≠ β0 i → ∃ j, j < n ∧ listed.getD j false = true ∧ C j ≤ i ∧ i < (p j).c) → Q .normal ar w := by
    intro listed a ar h w β hall g1 g2 hsz hda hs ha hk hb1 hb2
    have e1 : a.tmps = (A n).tmps := arr_of_getD (hsz.trans (T.size n (Nat.le_refl _)).symm) (fun t => g1 t n (Nat.le_refl _) (fun m hm _ => hall m hm) (fun m hm hm' => by omega))
    have e2 : ∀ i, Tr.get dep (H n) i = Tr.get dep h i := fun i => (g2 i n (Nat.le_refl _) (fun m hm _ => hall m hm) (fun m hm hm' => by omega)).symm
    refine hQ ar w β ⟨hb1, fun i hi => ?_⟩ ⟨fun i o hi => hs.obj i o (by rw [← e2]; exact hi), fun i j o o' I J hi hj => hs.inj i j o o' I J (by rw [← e2]; exact hi) (by rw [← e2]; exact hj)⟩ ⟨by rw [← e1]; exact ha.t, by rw [hd0 n (Nat.le_refl _), ← hda]; exact ha.d⟩ hk
    obtain ⟨j, hj, _, h1, h2⟩ := hb2 i hi
    have m1 := T.mono hcall.loc (j := 0) j (by omega)
    have m2 := T.mono hcall.loc (j := j + 1) (n - (j + 1)) (by omega)
    rw [Nat.zero_add] at m1
    rw [show j + 1 + (n - (j + 1)) = n from by omega, (cnt hj).2] at m2
    omega
  -- which is ready
  have least : ∀ (listed : Array Bool), listed.size = n → Region.ready .any ops listed = [] → ∀ j, j < n → listed.getD j false = true := by
    intro listed hsz hr j
    induction j using Nat.strongRecOn with
    | _ j ih =>
      intro hj
      cases hb : listed.getD j false with
      | true => rfl
      | false =>
        exfalso
        obtain ⟨o, t1, t2, t3, t4, t5, t6, t7⟩ := T.step j (Nat.zero_le _) hj
        have hb' : listed.getD j true = false := by
          have hlt : j < listed.size := by omega
          simpa [Array.getD, hlt] using hb
        have : j ∈ Region.ready .any ops listed := mem_ready.2 ⟨hb', o, t1, fun e he hbd => ih e.on (t6 e he hbd) (by have := t6 e he hbd; omega)⟩
        rw [hr] at this
        cases this
  intro fuel
  induction fuel with
  | zero =>
    intro listed a ar h w β hls hcnt hcl g1 g2 hsz hda hs ha hk hN hb1 hb2
    have hall : ∀ j, j < n → listed.getD j false = true := fun j hj => by
      have h0 : (List.range n).countP (fun j => !listed.getD j true) = 0 := by omega
      rw [List.countP_eq_zero] at h0
      have := h0 j (List.mem_range.2 hj)
      have hlt : j < listed.size := by omega
      simpa [Array.getD, hlt] using this
    refine ⟨?_, fin listed a ar h w β hall g1 g2 hsz hda hs ha hk hb1 hb2⟩
    cases hr : Region.ready .any ops listed with
    | nil => rfl
    | cons j rest =>
      have hm : j ∈ Region.ready .any ops listed := by rw [hr]; exact List.mem_cons_self ..
      obtain ⟨hun, o, ho, _⟩ := mem_ready.1 hm
      have hj : j < n := by rw [hn]; exact (Array.getElem?_eq_some_iff.1 ho).1
      have := hall j hj
      have hlt : j < listed.size := by omega
      simp [Array.getD, hlt] at this hun
      rw [hun] at this; cases this
  | succ fuel ih =>
    intro listed a ar h w β hls hcnt hcl g1 g2 hsz hda hs ha hk hN hb1 hb2
    refine ⟨fun hr => fin listed a ar h w β (least listed hls hr) g1 g2 hsz hda hs ha hk hb1 hb2, fun k hkr => ?_⟩
    obtain ⟨hun, o, ho, hready⟩ := mem_ready.1 hkr
    have hkn : k < n := by rw [hn]; exact (Array.getElem?_eq_some_iff.1 ho).1
    have hlt : k < listed.size := by omega
    have hunf : ¬ listed.getD k false = true := by
      simp [Array.getD, hlt] at hun ⊢
      exact hun
    obtain ⟨o', t1, t2, t3, t4, t5, t6, t7⟩ := T.step k (Nat.zero_le _) hkn
    rw [ho] at t1; cases t1
    have hrd : ∀ o2 e, ops[k]? = some o2 → e ∈ o2.after → Region.binds .any e = true → listed.getD e.on false = true := fun o2 e h2 he hb => by
      rw [ho] at h2; cases h2
      exact hready e he hb
    have hdep : ∀ j, Dep ops k j → listed.getD j false = true := fun j hd => ready_dep (D := fun j => listed.getD j false = true) hcl hrd hd
    have hback : ∀ m, m < n → k < m → listed.getD m false = true → ¬ Dep ops m k := fun m hm hkm hl hd => hunf (hcl.dep hd hl)
    -- what the step looks at is as in the text
    have eslot : ∀ t ∈ o.looksAt ops, (A k).tmps.getD t undef = a.tmps.getD t undef := fun t ht => by
      refine (g1 t k (by omega) (fun m hm hw => ?_) (fun m hm hkm hl hw => ?_)).symm
      · rcases T.conf hcall.loc hm hkn with hd | ⟨_, _, c3, _⟩
        · exact hdep m hd
        · exact absurd ht (c3 t o ho hw).1
      · rcases Nat.lt_or_ge k m with hlt' | hge
        · rcases T.conf hcall.loc hlt' hm with hd | ⟨_, _, _, c4⟩
          · exact hback m hm hlt' hl hd
          · exact c4 t o ho ht hw
        · have : m = k := by omega
          subst this; exact hunf hl
    have eheap : ∀ i, ((p k).r.testBit i = true ∨ (p k).w.testBit i = true) → Tr.get dep h i = Tr.get dep (H k) i := fun i hi => by
      refine g2 i k (by omega) (fun m hm hw => ?_) (fun m hm hkm hl hw => ?_)
      · rcases T.conf hcall.loc hm hkn with hd | ⟨c1, _, _, _⟩
        · exact hdep m hd
        · rcases hi with hi | hi
          · exact absurd hi (c1 i hw).1
          · exact absurd (.inl hi) (c1 i hw).2
      · rcases Nat.lt_or_ge k m with hlt' | hge
        · rcases T.conf hcall.loc hlt' hm with hd | ⟨c1, c2, _, _⟩
          · exact hback m hm hlt' hl hd
          · rcases hi with hi | hi
            · exact c2 i hi hw
            · exact (c1 i (.inl hi)).2 hw
        · have : m = k := by omega
          subst this; exact hunf hl
    have hst : stepOp P call ops o a = stepOp P call ops o (A k) := (stepOp_congr eslot ((T.size k (by omega)).trans hsz.symm)).symm
    obtain ⟨l1, l2, l3⟩ := stepOp_loc hcall.loc (C k) (H k) (p k) t2
    obtain ⟨h', hrun, hw'⟩ := l3 h eheap
    rw [← hst] at hrun
    obtain ⟨_, m2, _⟩ := stepOp_loc hcall.loc (C k) h _ hrun
    have hfr : ∀ i, C k ≤ i → i < (p k).c → β i = none := fun i h1 h2 => by
      have hc1 := T.mono hcall.loc (j := 0) k (by omega)
      have hc2 := T.mono hcall.loc (j := k + 1) (n - (k + 1)) (by omega)
      rw [Nat.zero_add] at hc1
      rw [show k + 1 + (n - (k + 1)) = n from by omega, (cnt hkn).2] at hc2
      have hz := hf0 i (by omega) (by omega)
      by_cases e : β i = β0 i
      · rw [e]; exact hz
      · obtain ⟨j, hj, hlj, j1, j2⟩ := hb2 i e
        exfalso
        rcases Nat.lt_trichotomy j k with hjk | hjk | hjk
        · have := T.mono hcall.loc (j := j + 1) (k - (j + 1)) (by omega)
          rw [show j + 1 + (k - (j + 1)) = k from by omega, (cnt hj).2] at this
          omega
        · subst hjk; exact hunf hlj
        · have := T.mono hcall.loc (j := k + 1) (j - (k + 1)) (by omega)
          rw [show k + 1 + (j - (k + 1)) = j from by omega, (cnt hkn).2] at this
          omega
    refine stepOp_ok (Q := Q) hcall ho hrun ha hs hN hfr fun v' w' β' hext hsim hvr hkeep => ?_
    have hD' : ∀ m, m < n → ((listed.setIfInBounds k true).getD m false = true ↔ (listed.getD m false = true ∨ m = k)) := fun m hm => by
      by_cases e : m = k
      · subst e
        simp [hlt]
      · have hne : k ≠ m := fun h => e h.symm
        simp [Array.getElem?_setIfInBounds_ne hne, e]
    refine ih (listed.setIfInBounds k true) (a.put o.dst (p k).a) (ar.put o.dst v') h' w' β' (by simpa using hls) ?_ ?_ ?_ ?_ ?_ ((put_defers _ _ _).trans hda) hsim ?_ (hk.trans hkeep) (Nat.le_trans hN hkeep.size) (fun i I hi => hext.old i I (hb1 i I hi)) ?_
    · have := countP_lt (p := fun j => !listed.getD j true) (q := fun j => !(listed.setIfInBounds k true).getD j true) (i := k) (fun j hj => by
        by_cases e : j = k
        · subst e; simp [hlt] at hj
        · have hne : k ≠ j := fun h => e h.symm
          simpa [Array.getElem?_setIfInBounds_ne hne] using hj) (by simp [hun]) (by simp [hlt]) (List.range n) (List.mem_range.2 hkn)
      omega
    · intro m o2 e hm he hb hl
      have hmn : m < n := by rw [hn]; exact (Array.getElem?_eq_some_iff.1 hm).1
      obtain ⟨o3, s1, _, _, _, _, s6, _⟩ := T.step m (Nat.zero_le _) hmn
      rw [hm] at s1; cases s1
      have hen : e.on < n := by have := s6 e he hb; omega
      refine (hD' e.on hen).2 ?_
      rcases (hD' m hmn).1 hl with hl | hl
      · exact .inl (hcl m o2 e hm he hb hl)
      · subst hl; exact .inl (hrd o2 e hm he hb)
    · refine Good.next (T.slots) hkn hD' hunf (fun m t hm hkm hl hw1 hw2 => ?_) g1 (fun t hw => ?_) (fun t hw => ?_)
      · rcases T.conf hcall.loc hkm hm with hd | ⟨_, _, c3, _⟩
        · exact hback m hm hkm hl hd
        · have hom : ∃ o2, ops[m]? = some o2 := let ⟨o2, h2, _⟩ := T.step m (Nat.zero_le _) hm; ⟨o2, h2⟩
          obtain ⟨o2, ho2⟩ := hom
          exact (c3 t o2 ho2 hw1).2 hw2
      · obtain ⟨o2, s1, s2⟩ := hw
        rw [ho] at s1; cases s1
        rw [t3, s2]
        exact put_same _ _ _ _ (hsz.trans (T.size k (by omega)).symm)
      · exact put_getD _ _ _ _ (fun e => hw ⟨o, ho, e⟩)
    · refine Good.next (T.heap hcall.loc) hkn hD' hunf (fun m i hm hkm hl hw1 hw2 => ?_) g2 (fun i hw => ?_) (fun i hw => ?_)
      · rcases T.conf hcall.loc hkm hm with hd | ⟨c1, _, _, _⟩
        · exact hback m hm hkm hl hd
        · exact (c1 i hw1).2 hw2
      · rw [t5]
        exact hw' i hw
      · refine m2 i ?_ ?_
        · cases hh : (p k).w.testBit i with
          | true => exact absurd (.inl hh) hw
          | false => rfl
        · have : ¬ (C k ≤ i ∧ i < (p k).c) := fun hh => hw (.inr hh)
          simp only
          omega
    · rw [put_size]; exact hsz
    · exact (ha.mono hext.old).put _ hvr
    · intro i hi
      by_cases e : β' i = β i
      · rw [e] at hi
        obtain ⟨j, hj, hl, h1, h2⟩ := hb2 i hi
        exact ⟨j, hj, (hD' j hj).2 (.inl hl), h1, h2⟩
      · obtain ⟨h1, h2⟩ := hext.new i e
        exact ⟨k, hkn, (hD' k hkn).2 (.inr rfl), h1, h2⟩
end
end Go.Proofs.Ytdpmjghdmpaehaa.ev
