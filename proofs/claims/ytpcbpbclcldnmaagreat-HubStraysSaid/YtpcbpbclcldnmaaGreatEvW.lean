/-
  Calls worked out ahead: each with what it looks at and what it turns. Conditions: none.
-/
import Derived.Test.YtpcbpbclcldnmaaGreatEvX
namespace Go.Proofs.YtpcbpbclcldnmaaGreat.ev
set_option linter.unusedVariables false
set_option linter.unusedSimpArgs false
variable {P : Program}
/-! ### Values held against one another, letter for letter -/
def eqBytes : List UInt8 → List UInt8 → Bool
  | [], [] => true
  | a :: l, b :: m => match Nat.beq a.toNat b.toNat with
    | true => eqBytes l m
    | false => false
  | _, _ => false
theorem eqBytes_eq : ∀ (l m : List UInt8), eqBytes l m = true → l = m
  | [], [], _ => rfl
  | [], b :: m, h => by cases h
  | a :: l, [], h => by cases h
  | a :: l, b :: m, h => by
    simp only [eqBytes] at h
    split at h
    · rename_i hb
      rw [UInt8.toNat_inj.1 (Nat.of_beq hb), eqBytes_eq l m h]
    · cases h
def eqFn : Fn → Fn → Bool
  | .func a, .func b => Nat.beq a b
  | _, _ => false
theorem eqFn_eq {a b : Fn} (h : eqFn a b = true) : a = b := by
  cases a <;> cases b <;> simp only [eqFn] at h <;> first
    | (rw [Nat.of_beq h]; done)
    | (cases h; done)
def eqAddr : Addr → Addr → Bool
  | ⟨a, o, none⟩, ⟨b, p, none⟩ => Nat.beq a b && Nat.beq o p
  | _, _ => false
theorem eqAddr_eq {a b : Addr} (h : eqAddr a b = true) : a = b := by
  obtain ⟨a, o, s⟩ := a
  obtain ⟨b, p, t⟩ := b
  cases s <;> cases t <;> simp only [eqAddr] at h <;> first
    | cases h
    | (simp only [Bool.and_eq_true] at h; rw [Nat.of_beq h.1, Nat.of_beq h.2])
def eqL (f : Value → Value → Bool) : List Value → List Value → Bool
  | [], [] => true
  | a :: l, b :: m => match f a b with
    | true => eqL f l m
    | false => false
  | _, _ => false
theorem eqL_eq {f : Value → Value → Bool} (hf : ∀ a b, f a b = true → a = b) : ∀ (l m : List Value), eqL f l m = true → l = m
  | [], [], _ => rfl
  | [], b :: m, h => by cases h
  | a :: l, [], h => by cases h
  | a :: l, b :: m, h => by
    simp only [eqL] at h
    split at h
    · rename_i hb
      rw [hf _ _ hb, eqL_eq hf l m h]
    · cases h
theorem eqL_arr {f : Value → Value → Bool} (hf : ∀ a b, f a b = true → a = b) {a b : Array Value} (h : eqL f a.toList b.toList = true) : a = b := by
  have := eqL_eq hf _ _ h
  exact Array.toList_inj.1 this
def eqV : Nat → Value → Value → Bool
  | 0, _, _ => false
  | n + 1, x, y => match x with
    | .bool true => match y with
      | .bool true => true
      | _ => false
    | .bool false => match y with
      | .bool false => true
      | _ => false
    | .int k (.ofNat a) => match y with
      | .int l (.ofNat b) => Nat.beq (kcx k) (kcx l) && Nat.beq a b
      | _ => false
    | .int k (.negSucc a) => match y with
      | .int l (.negSucc b) => Nat.beq (kcx k) (kcx l) && Nat.beq a b
      | _ => false
    | .string s => match y with
      | .string t => eqBytes s.data.toList t.data.toList
      | _ => false
    | .pointer none => match y with
      | .pointer none => true
      | _ => false
    | .pointer (some a) => match y with
      | .pointer (some b) => eqAddr a b
      | _ => false
    | .slice none l c => match y with
      | .slice none m d => Nat.beq l m && Nat.beq c d
      | _ => false
    | .slice (some a) l c => match y with
      | .slice (some b) m d => eqAddr a b && (Nat.beq l m && Nat.beq c d)
      | _ => false
    | .map none => match y with
      | .map none => true
      | _ => false
    | .map (some a) => match y with
      | .map (some b) => Nat.beq a b
      | _ => false
    | .chan (some a) => match y with
      | .chan (some b) => Nat.beq a b
      | _ => false
    | .func f a c => match y with
      | .func g b d => eqFn f g && (eqL (eqV n) a.toList b.toList && eqL (eqV n) c.toList d.toList)
      | _ => false
    | .nilFunc => match y with
      | .nilFunc => true
      | _ => false
    | .iface t v => match y with
      | .iface u w => Nat.beq t u && eqV n v w
      | _ => false
    | .nilIface => match y with
      | .nilIface => true
      | _ => false
    | .agg a => match y with
      | .agg b => eqL (eqV n) a.toList b.toList
      | _ => false
    | .tuple a => match y with
      | .tuple b => eqL (eqV n) a.toList b.toList
      | _ => false
    | _ => false
theorem ba_eq {s t : ByteArray} (h : s.data.toList = t.data.toList) : s = t := by
  cases s; cases t; simp only at h; rw [Array.toList_inj.1 h]
theorem eqV_eq : ∀ (n : Nat) (x y : Value), eqV n x y = true → x = y
  | 0, _, _, h => by cases h
  | n + 1, x, y, h => by
    have ih := eqV_eq n
    unfold eqV at h
    split at h <;> (try cases h) <;> split at h <;> (try cases h) <;> (try rfl) <;> (try simp only [Bool.and_eq_true] at h)
    · rw [kcx_inj (Nat.of_beq h.1), Nat.of_beq h.2]
    · rw [kcx_inj (Nat.of_beq h.1), Nat.of_beq h.2]
    · rw [ba_eq (eqBytes_eq _ _ h)]
    · rw [eqAddr_eq h]
    · rw [Nat.of_beq h.1, Nat.of_beq h.2]
    · rw [eqAddr_eq h.1, Nat.of_beq h.2.1, Nat.of_beq h.2.2]
    · rw [Nat.of_beq h]
    · rw [Nat.of_beq h]
    · rw [eqFn_eq h.1, eqL_arr ih h.2.1, eqL_arr ih h.2.2]
    · rw [Nat.of_beq h.1, ih _ _ h.2]
    · rw [eqL_arr ih h]
    · rw [eqL_arr ih h]
def eqC : Cs → Cs → Bool
  | .leaf xs, .leaf ys => eqL (eqV 6) xs ys
  | .rep n v, .rep m u => Nat.beq n m && eqV 6 v u
  | .cat n a b, .cat m c d => Nat.beq n m && (eqC a c && eqC b d)
  | _, _ => false
theorem eqC_eq : ∀ (a b : Cs), eqC a b = true → a = b
  | .leaf xs, .leaf ys, h => by rw [eqL_eq (eqV_eq 6) _ _ h]
  | .leaf xs, .rep n v, h => by cases h
  | .leaf xs, .cat n c d, h => by cases h
  | .rep n v, .leaf ys, h => by cases h
  | .rep n v, .rep m u, h => by
    simp only [eqC, Bool.and_eq_true] at h
    rw [Nat.of_beq h.1, eqV_eq 6 _ _ h.2]
  | .rep n v, .cat m c d, h => by cases h
  | .cat n a b, .leaf ys, h => by cases h
  | .cat n a b, .rep m u, h => by cases h
  | .cat n a b, .cat m c d, h => by
    simp only [eqC, Bool.and_eq_true] at h
    rw [Nat.of_beq h.1, eqC_eq a c h.2.1, eqC_eq b d h.2.2]
def eqE : List MapEntry → List MapEntry → Bool
  | [], [] => true
  | a :: l, b :: m => match eqV 6 a.key b.key && (eqV 6 a.val b.val && Nat.beq a.born b.born) with
    | true => eqE l m
    | false => false
  | _, _ => false
theorem eqE_eq : ∀ (l m : List MapEntry), eqE l m = true → l = m
  | [], [], _ => rfl
  | [], b :: m, h => by cases h
  | a :: l, [], h => by cases h
  | a :: l, b :: m, h => by
    simp only [eqE] at h
    split at h
    · rename_i hb
      simp only [Bool.and_eq_true] at hb
      rw [eqE_eq l m h]
      congr 1
      cases a; cases b
      simp only at hb
      rw [eqV_eq 6 _ _ hb.1, eqV_eq 6 _ _ hb.2.1, Nat.of_beq hb.2.2]
    · cases h
def eqG : Bool → Bool → Bool
  | true, true => true
  | false, false => true
  | _, _ => false
theorem eqG_eq {a b : Bool} (h : eqG a b = true) : a = b := by cases a <;> cases b <;> first | rfl | cases h
def eqN : Option Nat → Option Nat → Bool
  | none, none => true
  | some a, some b => Nat.beq a b
  | _, _ => false
theorem eqN_eq {a b : Option Nat} (h : eqN a b = true) : a = b := by
  cases a <;> cases b <;> simp only [eqN] at h <;> first
    | rfl
    | (rw [Nat.of_beq h]; done)
    | (cases h; done)
def eqNs : List Nat → List Nat → Bool
  | [], [] => true
  | a :: l, b :: m => match Nat.beq a b with
    | true => eqNs l m
    | false => false
  | _, _ => false
theorem eqNs_eq : ∀ (l m : List Nat), eqNs l m = true → l = m
  | [], [], _ => rfl
  | [], b :: m, h => by cases h
  | a :: l, [], h => by cases h
  | a :: l, b :: m, h => by
    simp only [eqNs] at h
    split at h
    · rename_i hb
      rw [Nat.of_beq hb, eqNs_eq l m h]
    · cases h
def eqA : Ao → Ao → Bool
  | .row C t g, .row D u k => eqG g k && (Nat.beq t u && eqC C D)
  | .map es n, .map fs m => Nat.beq n m && eqE es fs
  | .iter s n, .iter t m => Nat.beq n m && eqBytes s.data.toList t.data.toList
  | .mapIt m s l n, .mapIt m' s' l' n' => eqN m m' && (Nat.beq s s' && (eqNs l l' && Nat.beq n n'))
  | _, _ => false
theorem eqA_eq {a b : Ao} (h : eqA a b = true) : a = b := by
  cases a <;> cases b <;> simp only [eqA, Bool.and_eq_true] at h <;> first
    | (obtain ⟨h1, h2⟩ := h; rw [Nat.of_beq h1, eqE_eq _ _ h2]; done)
    | (obtain ⟨h1, h2⟩ := h; rw [Nat.of_beq h1, ba_eq (eqBytes_eq _ _ h2)]; done)
    | (obtain ⟨h1, h2, h3⟩ := h; rw [eqG_eq h1, Nat.of_beq h2, eqC_eq _ _ h3]; done)
    | (obtain ⟨h1, h2, h3, h4⟩ := h; rw [eqN_eq h1, Nat.of_beq h2, eqNs_eq _ _ h3, Nat.of_beq h4]; done)
    | (cases h; done)
def eqO : Option Ao → Option Ao → Bool
  | some a, some b => eqA a b
  | none, none => true
  | _, _ => false
theorem eqO_eq {a b : Option Ao} (h : eqO a b = true) : a = b := by
  cases a <;> cases b <;> simp only [eqO] at h <;> first
    | rfl
    | (rw [eqA_eq h]; done)
    | (cases h; done)
/-! ### What is known of one call -/
structure Memo where
  k : FuncId
  args : List Value
  c : Nat
  rs : List (Nat × Option Ao)
  v : Value
  d : Nat
  ws : List (Nat × Option Ao)
  w : Nat
def putAll : List (Nat × Option Ao) → Tr → Option Tr
  | [], h => some h
  | p :: l, h => match Tr.set dep h p.1 p.2 with
    | some h' => putAll l h'
    | none => none
def lastOf : List (Nat × Option Ao) → Nat → Option (Option Ao)
  | [], _ => none
  | p :: l, j => match lastOf l j with
    | some x => some x
    | none => if j = p.1 then some p.2 else none
theorem get_putAll : ∀ (l : List (Nat × Option Ao)) (h h' : Tr), putAll l h = some h' → ∀ j, Tr.get dep h' j = (lastOf l j).getD (Tr.get dep h j)
  | [], h, h', he, j => by
    simp only [putAll, Option.some.injEq] at he; subst he
    rfl
  | p :: l, h, h', he, j => by
    simp only [putAll] at he
    split at he
    · rename_i h1 hs
      rw [get_putAll l h1 h' he j]
      simp only [lastOf]
      cases hl : lastOf l j with
      | some x => rfl
      | none =>
        simp only [Option.getD_none]
        rw [Tr.get_set _ _ _ _ _ hs j]
        split <;> rfl
    · cases he
theorem putAll_any : ∀ (l : List (Nat × Option Ao)) (h h' : Tr), putAll l h = some h' → ∀ g, ∃ g', putAll l g = some g'
  | [], h, h', he, g => ⟨g, rfl⟩
  | p :: l, h, h', he, g => by
    simp only [putAll] at he
    split at he
    · rename_i h1 hs
      obtain ⟨g1, hg⟩ := Tr.set_any _ _ _ _ _ hs g
      obtain ⟨g', h2⟩ := putAll_any l h1 h' he g1
      exact ⟨g', by simp only [putAll, hg, h2]⟩
    · cases he
theorem lastOf_mem : ∀ (l : List (Nat × Option Ao)) (j : Nat) (x : Option Ao), lastOf l j = some x → (j, x) ∈ l
  | [], j, x, h => by cases h
  | p :: l, j, x, h => by
    simp only [lastOf] at h
    cases hl : lastOf l j with
    | some y =>
      rw [hl] at h
      cases h
      exact List.mem_cons_of_mem _ (lastOf_mem l j _ hl)
    | none =>
      rw [hl] at h
      simp only at h
      split at h
      · rename_i he
        cases h
        rw [he]
        exact List.mem_cons_self ..
      · cases h
theorem lastOf_none : ∀ (l : List (Nat × Option Ao)) (j : Nat), lastOf l j = none → ∀ p ∈ l, p.1 ≠ j
  | [], j, h, p, hp => by cases hp
  | q :: l, j, h, p, hp => by
    simp only [lastOf] at h
    cases hl : lastOf l j with
    | some y => rw [hl] at h; cases h
    | none =>
      rw [hl] at h
      simp only at h
      split at h
      · cases h
      · rename_i he
        rcases List.mem_cons.1 hp with rfl | hp
        · exact fun e => he e.symm
        · exact lastOf_none l j hl p hp
def testAll (h : Tr) : List (Nat × Option Ao) → Bool
  | [] => true
  | p :: l => match eqO (Tr.get dep h p.1) p.2 with
    | true => testAll h l
    | false => false
theorem testAll_ok {h : Tr} : ∀ {l : List (Nat × Option Ao)}, testAll h l = true → ∀ p ∈ l, Tr.get dep h p.1 = p.2
  | [], _, p, hp => by cases hp
  | q :: l, ht, p, hp => by
    simp only [testAll] at ht
    split at ht
    · rename_i hb
      rcases List.mem_cons.1 hp with rfl | hp
      · exact eqO_eq hb
      · exact testAll_ok ht p hp
    · cases ht
theorem testAll_congr {h g : Tr} : ∀ {l : List (Nat × Option Ao)}, (∀ p ∈ l, Tr.get dep g p.1 = Tr.get dep h p.1) → testAll g l = testAll h l
  | [], _ => rfl
  | q :: l, he => by
    simp only [testAll]
    rw [he q (List.mem_cons_self ..), testAll_congr fun p hp => he p (List.mem_cons_of_mem _ hp)]
/-- Are there no objects with the n numbers from c on? -/
def noneOn (h : Tr) (c : Nat) : Nat → Bool
  | 0 => true
  | n + 1 => match Tr.get dep h (c + n) with
    | none => noneOn h c n
    | some _ => false
theorem noneOn_ok {h : Tr} {c : Nat} : ∀ {n : Nat}, noneOn h c n = true → ∀ i, c ≤ i → i < c + n → Tr.get dep h i = none
  | 0, _, i, h1, h2 => by omega
  | n + 1, hn, i, h1, h2 => by
    simp only [noneOn] at hn
    split at hn
    · rename_i hg
      by_cases e : i = c + n
      · rw [e]; exact hg
      · exact noneOn_ok hn i h1 (by omega)
    · cases hn
theorem noneOn_congr {h g : Tr} {c : Nat} : ∀ {n : Nat}, (∀ i, c ≤ i → i < c + n → Tr.get dep g i = Tr.get dep h i) → noneOn g c n = noneOn h c n
  | 0, _ => rfl
  | n + 1, he => by
    simp only [noneOn]
    rw [he (c + n) (by omega) (by omega), noneOn_congr fun i h1 h2 => he i h1 (by omega)]
def idxs (l : List (Nat × Option Ao)) : List Nat := l.map (·.1)
def fresh (e : Memo) : Nat := 2 ^ e.d - 2 ^ e.c
def Memo.run (e : Memo) : Comp Value := fun c h =>
  match Nat.beq c e.c && (testAll h e.rs && noneOn h e.c (e.d - e.c)) with
  | true => match putAll e.ws h with
    | some h' => some ⟨e.v, e.d, h', Nat.lor (bits (idxs e.rs)) (fresh e), e.w⟩
    | none => none
  | false => none
/-- What is asked of an entry alone. -/
def stat (e : Memo) : Bool :=
  Nat.ble e.c e.d && (fall (fun p => Nat.blt p.1 e.d && (e.w.testBit p.1 || Nat.ble e.c p.1)) e.ws && Nat.beq (Nat.lor e.w (Nat.lor (bits (idxs e.ws)) (fresh e))) (Nat.lor (bits (idxs e.ws)) (fresh e)))
def chkOut (e : Memo) : Option (Out Value) → Bool
  | some ⟨v, d, h, r, w⟩ => eqV 8 v e.v && (Nat.beq d e.d && (Nat.beq w e.w && (Nat.beq (Nat.lor (Nat.lor r w) (Nat.lor (bits (idxs e.rs)) (fresh e))) (Nat.lor (bits (idxs e.rs)) (fresh e)) &&
      fall (fun p => match p.2 with
        | some o => eqO (Tr.get dep h p.1) (some o)
        | none => true) e.ws)))
  | none => false
/-- The entry is what the call comes to. -/
def chk (P : Program) (tab : TabF) (sp : SpF) (f : Nat) (e : Memo) : Bool :=
  stat e && (match putAll e.rs .lf with
    | some g => chkOut e (fxCall P tab sp f e.k e.args e.c g)
    | none => false)
structure MemoOK [Env] (P : Program) (e : Memo) : Prop where
  loc : Local e.run
  fn : ∃ fn, P.funcs[e.k]? = some fn ∧ (fn.name == "runtime.NumGoroutine") = false ∧ fn.body.isNone = false
  run : ∀ (N : Nat) (args' : List Value) (β : Mp) (c : Nat) (h : Tr) (o : Out Value) (w : World), e.run c h = some o → PW β e.args args' → Sim P N β h w → N ≤ w.heap.size → (∀ i, c ≤ i → i < o.c → β i = none) →
    Calls P e.k args'.toArray w (fun x w' => ∃ v' β', x = .returned v' ∧ Ext c o.c β β' ∧ Sim P N β' o.h w' ∧ VR β' o.a v' ∧ Keep N w w')
theorem mask_mem {a b : Nat} (h : Nat.beq (Nat.lor a b) b = true) (i : Nat) (hi : a.testBit i = true) : b.testBit i = true := by
  have := Nat.of_beq h
  rw [← this, testBit_lor, hi, Bool.true_or]
theorem Sim.sub [Env] {N : Nat} {β : Mp} {h g : Tr} {w : World} (hs : Sim P N β h w) (hg : ∀ i o, Tr.get dep g i = some o → Tr.get dep h i = some o) : Sim P N β g w :=
  ⟨fun i o hi => hs.obj i o (hg i o hi), fun i j o o' I J hi hj => hs.inj i j o o' I J (hg i o hi) (hg j o' hj)⟩
theorem run_some {e : Memo} {c : Nat} {h : Tr} {o : Out Value} (he : e.run c h = some o) :
    c = e.c ∧ testAll h e.rs = true ∧ noneOn h e.c (e.d - e.c) = true ∧ ∃ h', putAll e.ws h = some h' ∧ o = ⟨e.v, e.d, h', Nat.lor (bits (idxs e.rs)) (fresh e), e.w⟩ := by
  simp only [Memo.run] at he
  split at he
  · rename_i hb
    simp only [Bool.and_eq_true] at hb
    split at he
    · rename_i h' hp
      simp only [Option.some.injEq] at he
      exact ⟨Nat.of_beq hb.1, hb.2.1, hb.2.2, h', hp, he.symm⟩
    · cases he
  · cases he
theorem fresh_bit {e : Memo} (h : e.c ≤ e.d) (i : Nat) : (fresh e).testBit i = true ↔ (e.c ≤ i ∧ i < e.d) := testBit_range e.c e.d i h
theorem Memo.loc {e : Memo} (hst : stat e = true) : Local e.run := by
  simp only [stat, Bool.and_eq_true] at hst
  obtain ⟨h0, h1, h2⟩ := hst
  have h0 := Nat.le_of_ble_eq_true h0
  rw [fall_eq, List.all_eq_true] at h1
  intro c h o he
  obtain ⟨rfl, ht, hn, h', hp, rfl⟩ := run_some he
  have hget := get_putAll _ _ _ hp
  refine ⟨h0, fun i hw hi => ?_, fun g hg => ?_⟩
  · show Tr.get dep h' i = Tr.get dep h i
    rw [hget i]
    cases hl : lastOf e.ws i with
    | none => rfl
    | some x =>
      exfalso
      have := h1 _ (lastOf_mem _ _ _ hl)
      simp only [Bool.and_eq_true, Bool.or_eq_true] at this
      obtain ⟨k1, k2⟩ := this
      have k1 := blt_true k1
      simp only at hw hi
      rcases k2 with k2 | k2
      · rw [hw] at k2; cases k2
      · have := Nat.le_of_ble_eq_true k2; omega
  · have gr : ∀ p ∈ e.rs, Tr.get dep g p.1 = Tr.get dep h p.1 := fun p hp' => hg _ (.inl (by
      simp only
      have k : (bits (idxs e.rs)).testBit p.1 = true := (testBit_bits _ _).2 (List.mem_map.2 ⟨p, hp', rfl⟩)
      rw [testBit_lor, k, Bool.true_or]))
    have gf : ∀ i, e.c ≤ i → i < e.c + (e.d - e.c) → Tr.get dep g i = Tr.get dep h i := fun i a b => hg _ (.inl (by
      simp only
      rw [testBit_lor, (fresh_bit h0 i).2 ⟨a, by omega⟩, Bool.or_true]))
    obtain ⟨g', hp'⟩ := putAll_any _ _ _ hp g
    refine ⟨g', ?_, fun i hi => ?_⟩
    · simp only [Memo.run]
      rw [testAll_congr gr, noneOn_congr gf, ht, hn, hp']
      simp
    · show Tr.get dep g' i = Tr.get dep h' i
      rw [get_putAll _ _ _ hp' i, hget i]
      cases hl : lastOf e.ws i with
      | some x => rfl
      | none =>
        simp only [Option.getD_none]
        by_cases hf : e.c ≤ i ∧ i < e.d
        · exact gf i hf.1 (by omega)
        · rcases hi with hi | hi
          · have := mask_mem h2 i hi
            rw [testBit_lor, Bool.or_eq_true] at this
            rcases this with k | k
            · exfalso
              obtain ⟨p, hp1, hp2⟩ := List.mem_map.1 ((testBit_bits _ _).1 k)
              exact lastOf_none _ _ hl p hp1 hp2
            · exact absurd ((fresh_bit h0 i).1 k) hf
          · exact absurd hi hf
theorem memoOK [Env] {tab : TabF} {sp : SpF} (hsp : SpOK P sp) (htab : ∀ β o xs v ρ, tab o xs = some v → PW β xs (o.op.operands.toList.map ρ) → ∃ v', VR β v v' ∧ ∀ w, (execOp ρ o).run P w = .ok (.value v') w)
    (hm : P.follows .mixedOrders = true) (hnn : ∀ (k : Nat) (fn : Func), P.funcs[k]? = some fn → (fn.name == "runtime.NumGoroutine") = false) {f : Nat} {e : Memo} (hc : chk P tab sp f e = true) : MemoOK P e := by
  unfold chk at hc
  rw [Bool.and_eq_true] at hc
  obtain ⟨hst, hc⟩ := hc
  split at hc
  rotate_left
  · cases hc
  rename_i g hg
  have hgg := get_putAll _ _ _ hg
  unfold chkOut at hc
  split at hc
  rotate_left
  · cases hc
  rename_i v d h1 r m hT
  simp only [Bool.and_eq_true] at hc
  obtain ⟨c1, c2, c3, c4, c5⟩ := hc
  have c1 := eqV_eq 8 _ _ c1
  have c2 := Nat.of_beq c2
  have c3 := Nat.of_beq c3
  subst c1; subst c2; subst c3
  rw [fall_eq, List.all_eq_true] at c5
  have hst' := hst
  simp only [stat, Bool.and_eq_true] at hst
  have h0 := Nat.le_of_ble_eq_true hst.1
  have hT' : evCall P tab sp f e.k e.args e.c g = some ⟨e.v, e.d, h1, r, e.w⟩ := fxSp_ref (fxCode_ok (P := P) (tab := tab) (sp := sp) f) e.k e.args e.c g _ hT
  have CO : ∀ N, CallOK P N (evCall P tab sp f) := fun N => (evCode_ok hsp htab hm hnn f).call hnn htab hsp
  refine ⟨Memo.loc hst', (CO 0).fn _ _ _ _ _ hT', ?_⟩
  intro N args' β c h o w he hp hs hN hfr
  obtain ⟨rfl, ht, hn, h', hput, rfl⟩ := run_some he
  have ht := testAll_ok ht
  have hn := noneOn_ok hn
  have agree : ∀ i, (r.testBit i = true ∨ e.w.testBit i = true) → Tr.get dep h i = Tr.get dep g i := fun i hi => by
    have k : (Nat.lor r e.w).testBit i = true := by rw [testBit_lor, Bool.or_eq_true]; exact hi
    have k := mask_mem c4 i k
    rw [hgg i]
    cases hl : lastOf e.rs i with
    | some x => exact ht _ (lastOf_mem _ _ _ hl)
    | none =>
      simp only [Option.getD_none, Tr.get_lf]
      rw [testBit_lor, Bool.or_eq_true] at k
      rcases k with k | k
      · exfalso
        obtain ⟨p, hp1, hp2⟩ := List.mem_map.1 ((testBit_bits _ _).1 k)
        exact lastOf_none _ _ hl p hp1 hp2
      · have := (fresh_bit h0 i).1 k
        exact hn i this.1 (by omega)
  obtain ⟨h2, hT2, ag⟩ := ((CO N).loc _ _ _ _ _ hT').2.2 h agree
  have fst := ((CO N).loc _ _ _ _ _ hT2).2.1
  refine ((CO N).run _ _ args' β _ _ _ w hT2 hp hs hN hfr).mono ?_
  rintro x w' ⟨v', β', rfl, e1, e2, e3, e4⟩
  refine ⟨v', β', rfl, e1, e2.sub fun i o hi => ?_, e3, e4⟩
  rw [get_putAll _ _ _ hput i] at hi
  cases hl : lastOf e.ws i with
  | some x =>
    rw [hl] at hi
    simp only [Option.getD_some] at hi
    subst hi
    have hmem := lastOf_mem _ _ _ hl
    have k1 := c5 _ hmem
    simp only at k1
    have k1 := eqO_eq k1
    have k2 := List.all_eq_true.1 (fall_eq _ _ ▸ hst.2.1) _ hmem
    simp only [Bool.and_eq_true, Bool.or_eq_true] at k2
    have k3 := blt_true k2.1
    rw [ag i (by
      rcases k2.2 with k | k
      · exact .inl k
      · exact .inr ⟨Nat.le_of_ble_eq_true k, k3⟩)]
    exact k1
  | none =>
    rw [hl] at hi
    simp only [Option.getD_none] at hi
    by_cases hf : e.c ≤ i ∧ i < e.d
    · rw [hn i hf.1 (by omega)] at hi; cases hi
    · rw [fst i ?_ (by simp only; omega)]
      · exact hi
      · cases hw : e.w.testBit i with
        | false => rfl
        | true =>
          exfalso
          have := mask_mem hst.2.2 i hw
          rw [testBit_lor, Bool.or_eq_true] at this
          rcases this with k | k
          · obtain ⟨p, hp1, hp2⟩ := List.mem_map.1 ((testBit_bits _ _).1 k)
            exact lastOf_none _ _ hl p hp1 hp2
          · exact hf ((fresh_bit h0 i).1 k)
def hasKey (k : FuncId) (args : List Value) : List Memo → Bool
  | [] => false
  | e :: l => match Nat.beq k e.k with
    | true => match eqL (eqV 6) args e.args with
      | true => true
      | false => hasKey k args l
    | false => hasKey k args l
def pickAt (k : FuncId) (args : List Value) (c : Nat) : List Memo → Option Memo
  | [] => none
  | e :: l => match Nat.beq c e.c && Nat.beq k e.k with
    | true => match eqL (eqV 6) args e.args with
      | true => some e
      | false => pickAt k args c l
    | false => pickAt k args c l
theorem pickAt_ok {k : FuncId} {args : List Value} {c : Nat} {e : Memo} : ∀ {l : List Memo}, pickAt k args c l = some e → e ∈ l ∧ k = e.k ∧ args = e.args
  | [], h => by cases h
  | q :: l, h => by
    simp only [pickAt] at h
    split at h
    · rename_i hb
      simp only [Bool.and_eq_true] at hb
      split at h
      · rename_i ha
        cases h
        exact ⟨List.mem_cons_self .., Nat.of_beq hb.2, eqL_eq (eqV_eq 6) _ _ ha⟩
      · obtain ⟨h1, h2⟩ := pickAt_ok h
        exact ⟨List.mem_cons_of_mem _ h1, h2⟩
    · obtain ⟨h1, h2⟩ := pickAt_ok h
      exact ⟨List.mem_cons_of_mem _ h1, h2⟩
theorem hasKey_ok {k : FuncId} {args : List Value} : ∀ {l : List Memo}, hasKey k args l = true → ∃ e ∈ l, k = e.k ∧ args = e.args
  | [], h => by cases h
  | q :: l, h => by
    simp only [hasKey] at h
    split at h
    · rename_i hb
      split at h
      · rename_i ha
        exact ⟨q, List.mem_cons_self .., Nat.of_beq hb, eqL_eq (eqV_eq 6) _ _ ha⟩
      · obtain ⟨e, h1, h2⟩ := hasKey_ok h
        exact ⟨e, List.mem_cons_of_mem _ h1, h2⟩
    · obtain ⟨e, h1, h2⟩ := hasKey_ok h
      exact ⟨e, List.mem_cons_of_mem _ h1, h2⟩
/-- The calls of a list are known. -/
def spM (l : List Memo) : SpF := fun k args => match hasKey k args l with
  | true => some (fun c h => match pickAt k args c l with
    | some e => e.run c h
    | none => none)
  | false => none
theorem spM_ok [Env] {l : List Memo} (hl : ∀ e ∈ l, MemoOK P e) : SpOK P (spM l) := by
  have key : ∀ k args m, spM l k args = some m → hasKey k args l = true ∧ m = (fun c h => match pickAt k args c l with | some e => e.run c h | none => none) := fun k args m hm => by
    unfold spM at hm
    split at hm
    · rename_i hb
      exact ⟨hb, (Option.some.inj hm).symm⟩
    · cases hm
  refine ⟨fun k args m hm => ?_, fun k args m hm => ?_, fun k args m hm => ?_⟩
  · obtain ⟨_, rfl⟩ := key k args m hm
    intro c h o he
    replace he : (match pickAt k args c l with | some e => e.run c h | none => none) = some o := he
    split at he
    · rename_i e hp
      obtain ⟨h1, h2, h3⟩ := (hl e (pickAt_ok hp).1).loc c h o he
      refine ⟨h1, h2, fun g hg => ?_⟩
      obtain ⟨g', k1, k2⟩ := h3 g hg
      exact ⟨g', by simp only [hp, k1], k2⟩
    · cases he
  · obtain ⟨hb, _⟩ := key k args m hm
    obtain ⟨e, h1, rfl, _⟩ := hasKey_ok hb
    exact (hl e h1).fn
  · obtain ⟨_, rfl⟩ := key k args m hm
    intro N args' β c h o w he hp hs hN hfr
    replace he : (match pickAt k args c l with | some e => e.run c h | none => none) = some o := he
    split at he
    · rename_i e hpk
      obtain ⟨h1, rfl, rfl⟩ := pickAt_ok hpk
      exact (hl e h1).run N args' β c h o w he hp hs hN hfr
    · cases he
end Go.Proofs.YtpcbpbclcldnmaaGreat.ev
