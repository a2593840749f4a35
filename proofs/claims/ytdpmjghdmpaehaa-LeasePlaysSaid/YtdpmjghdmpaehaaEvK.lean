/-
  A region whose order is drawn: each order comes to the same, if operations that nothing holds apart have nothing to do with one another. Conditions: none.
-/
import Derived.Test.YtdpmjghdmpaehaaEvJ
namespace Go.Proofs.Ytdpmjghdmpaehaa.ev
set_option linter.unusedVariables false
set_option linter.unusedSimpArgs false
variable {P : Program} {N : Nat} {β : Mp}
/-- k comes behind j. -/
inductive Dep (ops : Array Oper) : Nat → Nat → Prop
  | edge {k : Nat} {o : Oper} {e : Edge} : ops[k]? = some o → e ∈ o.after → Region.binds .any e = true → Dep ops k e.on
  | trans {k j i : Nat} : Dep ops k j → Dep ops j i → Dep ops k i
structure Rec where
  k : Nat
  anc : Nat
  r : Nat
  w : Nat
  sr : Nat
  sw : Nat
def bits (l : List Nat) : Nat := l.foldr (fun i m => Nat.lor (bit i) m) 0
theorem testBit_bits (l : List Nat) (i : Nat) : (bits l).testBit i = true ↔ i ∈ l := by
  induction l with
  | nil => simp [bits]
  | cons a l ih =>
    have : bits (a :: l) = Nat.lor (bit a) (bits l) := rfl
    rw [this, testBit_lor, Bool.or_eq_true, ih, testBit_bit]
    simp [eq_comm]
def ancAt (recs : List Rec) (j : Nat) : Nat :=
  match recs with
  | [] => 0
  | r :: rest => match Nat.beq r.k j with
    | true => Nat.lor (bit j) r.anc
    | false => ancAt rest j
def ancOf (recs : List Rec) (k : Nat) : List Edge → Option Nat
  | [] => some 0
  | e :: l => match Region.binds .any e with
    | false => ancOf recs k l
    | true => match Nat.blt e.on k with
      | false => none
      | true => match ancOf recs k l with
        | none => none
        | some m => some (Nat.lor (Nat.lor (bit e.on) (ancAt recs e.on)) m)
/-- Are they held apart, or have they nothing to do with one another? -/
def compat (c j : Rec) : Bool :=
  c.anc.testBit j.k || (Nat.beq (Nat.land j.w (Nat.lor c.r c.w)) 0 && (Nat.beq (Nat.land j.r c.w) 0 && (Nat.beq (Nat.land j.sw (Nat.lor c.sr c.sw)) 0 && Nat.beq (Nat.land j.sr c.sw) 0)))
def swOf (o : Oper) : Nat := match o.dst with
  | some d => bit d
  | none => 0
def anyOps (P : Program) (call : CallF) (ops : Array Oper) : List Oper → Nat → List Rec → Act → Comp Act
  | [], _, _, a => ret a
  | o :: l, k, recs, a => bind (ofOpt (ancOf recs k o.after.toList)) fun anc =>
      bind (listen (stepOp P call ops o a)) fun x =>
        gd (recs.all (compat ⟨k, anc, x.2.1, x.2.2, bits (o.looksAt ops), swOf o⟩))
          (anyOps P call ops l (k + 1) (⟨k, anc, x.2.1, x.2.2, bits (o.looksAt ops), swOf o⟩ :: recs) (a.put o.dst x.1))
theorem anyOps_loc [Env] {call : CallF} (hcall : ∀ k args, Local (call k args)) {ops : Array Oper} : ∀ (l : List Oper) (k : Nat) (recs : List Rec) (a : Act), Local (anyOps P call ops l k recs a)
  | [], k, recs, a => Local.ret a
  | o :: l, k, recs, a => Local.bind (Local.ofOpt _) fun anc => Local.bind (Local.listen (stepOp_loc hcall)) fun x => Local.gd (anyOps_loc hcall l _ _ _)
/-- The steps in the order of the text. -/
structure Trace (P : Program) (call : CallF) (ops : Array Oper) (lo hi : Nat) (A : Nat → Act) (C : Nat → Nat) (H : Nat → Tr) (p : Nat → Out Value) (R : Nat → Rec) : Prop where
  step : ∀ k, lo ≤ k → k < hi → ∃ o, ops[k]? = some o ∧ stepOp P call ops o (A k) (C k) (H k) = some (p k) ∧ A (k + 1) = (A k).put o.dst (p k).a ∧ C (k + 1) = (p k).c ∧ H (k + 1) = (p k).h ∧
    (∀ e ∈ o.after, Region.binds .any e = true → e.on < k) ∧ R k = ⟨k, (R k).anc, (p k).r, Nat.lor (p k).w (2 ^ (p k).c - 2 ^ C k), bits (o.looksAt ops), swOf o⟩
  anc : ∀ k i, k < hi → (R k).anc.testBit i = true → Dep ops k i
  comp : ∀ k j, lo ≤ k → k < hi → j < k → compat (R k) (R j) = true
theorem ancAt_ok [Env] {ops : Array Oper} {recs : List Rec} {j : Nat} (hr : ∀ r ∈ recs, ∀ i, r.anc.testBit i = true → Dep ops r.k i) {i : Nat} (h : (ancAt recs j).testBit i = true) : i = j ∨ Dep ops j i := by
  induction recs with
  | nil => simp [ancAt] at h
  | cons r l ih =>
    simp only [ancAt] at h
    split at h
    · rename_i hb
      have hb := Nat.of_beq hb
      rw [testBit_lor, Bool.or_eq_true, testBit_bit] at h
      rcases h with h | h
      · exact .inl h.symm
      · exact .inr (hb ▸ hr r (List.mem_cons_self ..) i h)
    · exact ih (fun r hr' => hr r (List.mem_cons_of_mem _ hr')) h
theorem ancOf_ok [Env] {ops : Array Oper} {recs : List Rec} {k : Nat} {o : Oper} (ho : ops[k]? = some o) (hr : ∀ r ∈ recs, ∀ i, r.anc.testBit i = true → Dep ops r.k i) : ∀ (l : List Edge), (∀ e ∈ l, e ∈ o.after) → ∀ m, ancOf recs k l = some m →
    (∀ e ∈ l, Region.binds .any e = true → e.on < k) ∧ ∀ i, m.testBit i = true → Dep ops k i
  | [], _, m, h => by simp only [ancOf, Option.some.injEq] at h; subst h; exact ⟨by simp, fun i hi => by simp at hi⟩
  | e :: l, hl, m, h => by
    simp only [ancOf] at h
    split at h
    · rename_i hb
      obtain ⟨h1, h2⟩ := ancOf_ok ho hr l (fun e he => hl e (List.mem_cons_of_mem _ he)) m h
      refine ⟨fun e' he' hb' => ?_, h2⟩
      rcases List.mem_cons.1 he' with rfl | he'
      · rw [hb] at hb'; cases hb'
      · exact h1 e' he' hb'
    · rename_i hb
      split at h
      · cases h
      · rename_i hlt
        split at h
        · cases h
        · rename_i m' hm
          simp only [Option.some.injEq] at h; subst h
          obtain ⟨h1, h2⟩ := ancOf_ok ho hr l (fun e he => hl e (List.mem_cons_of_mem _ he)) m' hm
          have he0 := hl e (List.mem_cons_self ..)
          refine ⟨fun e' he' hb' => ?_, fun i hi => ?_⟩
          · rcases List.mem_cons.1 he' with rfl | he'
            · exact Nat.le_of_ble_eq_true hlt
            · exact h1 e' he' hb'
          · rw [testBit_lor, testBit_lor, Bool.or_eq_true, Bool.or_eq_true, testBit_bit] at hi
            rcases hi with (hi | hi) | hi
            · subst hi; exact .edge ho he0 hb
            · rcases ancAt_ok hr hi with rfl | hd
              · exact .edge ho he0 hb
              · exact .trans (.edge ho he0 hb) hd
            · exact h2 i hi
/-- Out of a run, its trace. -/
theorem anyOps_trace [Env] {call : CallF} {ops : Array Oper} : ∀ (l : List Oper) (k : Nat) (recs : List Rec) (a : Act) (c : Nat) (h : Tr) (out : Out Act) (R0 : Nat → Rec), ops.toList.drop k = l → anyOps P call ops l k recs a c h = some out →
    (∀ j, j < k → R0 j ∈ recs) → (∀ j, j < k → (R0 j).k = j) → (∀ r ∈ recs, ∀ i, r.anc.testBit i = true → Dep ops r.k i) →
    ∃ A C H p R, A k = a ∧ C k = c ∧ H k = h ∧ Trace P call ops k (k + l.length) A C H p R ∧ A (k + l.length) = out.a ∧ C (k + l.length) = out.c ∧ H (k + l.length) = out.h ∧ ∀ j, j < k → R j = R0 j
  | [], k, recs, a, c, h, out, R0, hl, he, h1, h2, h3 => by
    simp only [anyOps, ret, Option.some.injEq] at he; subst he
    exact ⟨fun _ => a, fun _ => c, fun _ => h, fun _ => ⟨undef, 0, h, 0, 0⟩, R0, rfl, rfl, rfl, ⟨fun j hj hj' => by simp at hj'; omega, fun j i hj hi => by
      have hm := h3 (R0 j) (h1 j (by simpa using hj)) i hi
      rwa [h2 j (by simpa using hj)] at hm, fun j i hj hj' _ => by simp at hj'; omega⟩, rfl, rfl, rfl, fun _ _ => rfl⟩
  | o :: l, k, recs, a, c, h, out, R0, hl, he, h1, h2, h3 => by
    have hk : ops[k]? = some o := by
      have : (ops.toList.drop k)[0]? = some o := by rw [hl]; rfl
      rw [List.getElem?_drop] at this
      simpa using this
    have hl' : ops.toList.drop (k + 1) = l := by
      rw [← List.drop_drop, hl]; rfl
    obtain ⟨o1, q1, ho1, hq1, rfl⟩ := bind_some he
    obtain ⟨anc, hanc, rfl⟩ := ofOpt_some ho1
    obtain ⟨o2, q2, ho2, hq2, rfl⟩ := bind_some hq1
    simp only [ev.listen] at ho2
    split at ho2
    · rename_i p0 hp0
      simp only [Option.some.injEq] at ho2; subst ho2
      obtain ⟨hcomp, hrest⟩ := gd_some hq2
      simp only at hcomp hrest
      obtain ⟨hed, hanc'⟩ := ancOf_ok hk h3 _ (fun e he => by simpa using he) anc hanc
      generalize hrc : (⟨k, anc, p0.r, Nat.lor p0.w (2 ^ p0.c - 2 ^ c), bits (o.looksAt ops), swOf o⟩ : Rec) = rc at hcomp hrest
      have hrck : rc.k = k := by rw [← hrc]
      have hrca : rc.anc = anc := by rw [← hrc]
      obtain ⟨A, C, H, p, R, e1, e2, e3, T, e4, e5, e6, e7⟩ := anyOps_trace l (k + 1) _ _ _ _ _ (fun j => if j = k then rc else R0 j) hl' hrest
        (fun j hj => by
          by_cases e : j = k
          · simp [e]
          · simp only [e, if_false]; exact List.mem_cons_of_mem _ (h1 j (by omega)))
        (fun j hj => by
          by_cases e : j = k
          · simp [e, hrck]
          · simp only [e, if_false]; exact h2 j (by omega))
        (fun r hr i hi => by
          rcases List.mem_cons.1 hr with rfl | hr
          · rw [hrck]; rw [hrca] at hi; exact hanc' i hi
          · exact h3 r hr i hi)
      have hRk : R k = rc := by rw [e7 k (by omega)]; simp
      have hRj : ∀ j, j < k → R j = R0 j := fun j hj => by rw [e7 j (by omega)]; simp [show j ≠ k by omega]
      have hlen : k + (o :: l).length = k + 1 + l.length := by simp; omega
      rw [hlen]
      refine ⟨fun j => if j = k then a else A j, fun j => if j = k then c else C j, fun j => if j = k then h else H j, fun j => if j = k then p0 else p j, R, by simp, by simp, by simp, ⟨fun j hj hj' => ?_, fun j i hj hi => T.anc j i hj hi, fun j i hj hj' hi => ?_⟩, by simp [show k + 1 + l.length ≠ k by omega, e4], by simp [show k + 1 + l.length ≠ k by omega, e5], by simp [show k + 1 + l.length ≠ k by omega, e6], hRj⟩
      · by_cases e : j = k
        · subst e
          simp only [if_true, show j + 1 ≠ j by omega, if_false]
          refine ⟨o, hk, hp0, e1, e2, e3, fun e he hb => hed e (by simpa using he) hb, ?_⟩
          rw [hRk]
          rw [hrca, hrc]
        · obtain ⟨o', t1, t2, t3, t4, t5, t6, t7⟩ := T.step j (by omega) hj'
          have e' : j + 1 ≠ k := by omega
          simp only [e, e', if_false]
          exact ⟨o', t1, t2, t3, t4, t5, t6, t7⟩
      · by_cases e : j = k
        · subst e
          rw [hRk, hRj i hi]
          rw [List.all_eq_true] at hcomp
          exact hcomp _ (h1 i hi)
        · exact T.comp j i (by omega) hj' hi
    · cases ho2
end Go.Proofs.Ytdpmjghdmpaehaa.ev
