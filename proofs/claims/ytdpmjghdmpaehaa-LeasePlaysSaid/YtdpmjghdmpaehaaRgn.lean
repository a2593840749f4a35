/-
  Regions that draw their order: a schedule that takes what only reads first, each operation looked at once. Conditions: none.
-/
import Derived.OrdersHeld
import Derived.Deep.QuietTactic
import Derived.BigQuiet
import Derived.Deep.RegionHeld3
import Derived.Test.YtdpmjghdmpaehaaLib
namespace Go.Proofs.Ytdpmjghdmpaehaa.rgn
set_option linter.unusedVariables false
set_option linter.unusedSimpArgs false
section
variable {P : Program} {ops : Array Oper} {Q : Exit → Act → World → Prop} {R : World → World → Prop}
/-- Whatever order is picked: behind each operation the world stands to the one before it as R says. -/
def AnyR (P : Program) (ops : Array Oper) (Q : Exit → Act → World → Prop) (R : World → World → Prop) : Nat → Array Bool → Act → World → Prop
  | 0, listed, a, w => Region.ready .any ops listed = [] ∧ Q .normal a w
  | fuel + 1, listed, a, w =>
    (Region.ready .any ops listed = [] → Q .normal a w) ∧
    ∀ i ∈ Region.ready .any ops listed, wpOp P ops Q i (fun a' w' => R w w' ∧ AnyR P ops Q R fuel (listed.setIfInBounds i true) a' w') a w
theorem AnyR.any : ∀ (fuel : Nat) (listed : Array Bool) (a : Act) (w : World), AnyR P ops Q R fuel listed a w → wpAny P .any ops Q fuel listed a w
  | 0, _, _, _, h => h
  | fuel + 1, _, _, _, h => ⟨h.1, fun i hi => wpOp_mono (fun a' w' h' => AnyR.any fuel _ a' w' h'.2) (h.2 i hi)⟩
theorem set_ne_true {i j : Nat} {l : Array Bool} (h : (l.setIfInBounds j true).getD i true = false) : i ≠ j ∧ l.getD i true = false := by
  by_cases e : i = j
  · subst e
    by_cases hs : i < l.size
    · simp [hs] at h
    · simp [hs] at h
  · refine ⟨e, ?_⟩
    simpa [Array.getElem?_setIfInBounds_ne (Ne.symm e)] using h
theorem AnyR.first (hr : ∀ w, R w w) (ht : ∀ a b c, R a b → R b c → R a c) {i : Nat} {oi : Oper} {v : Value} (hi : ops[i]? = some oi) (hsel : ∀ (j : Nat) (o : Oper) cs b, ops[j]? = some o → o.op ≠ .select cs b)
    (hQ : ∀ c a d v w, Q (.panic c) (a.put d v) w → Q (.panic c) a w) :
    ∀ (fuel : Nat) (listed : Array Bool) (a : Act) (w : World),
      (∀ j oj, ops[j]? = some oj → j ≠ i → listed.getD j true = false → (∀ e ∈ oj.after, Region.binds .any e = true → e.on ≠ i) → oi.apart ops oj = true) →
      i ∈ Region.ready .any ops listed → YieldsIf P ops (R w) oi v a →
      AnyR P ops Q R fuel (listed.setIfInBounds i true) (a.put oi.dst v) w → AnyR P ops Q R (fuel + 1) listed a w := by
  intro fuel
  induction fuel with
  | zero =>
    intro listed a w _ hre hy H
    refine ⟨fun h => (by rw [h] at hre; cases hre), fun j hj => ?_⟩
    by_cases hji : j = i
    · subst hji; exact hy.wpOp hi (hr w) ⟨hr w, H⟩
    · have := ready_mono hj hji
      rw [H.1] at this
      cases this
  | succ fuel ih =>
    intro listed a w hfree hre hy H
    refine ⟨fun h => (by rw [h] at hre; cases hre), fun j hj => ?_⟩
    by_cases hji : j = i
    · subst hji; exact hy.wpOp hi (hr w) ⟨hr w, H⟩
    · have h1 := H.2 j (ready_mono hj hji)
      obtain ⟨hjun, oj, hoj, hall⟩ := mem_ready.1 hj
      have hiun := (mem_ready.1 hre).1
      have hnot : ∀ e ∈ oj.after, Region.binds .any e = true → e.on ≠ i := by
        intro e he hb heq
        have h2 := hall e he hb
        rw [heq] at h2
        by_cases hs : i < listed.size
        · simp [hs] at hiun h2; rw [hiun] at h2; cases h2
        · simp [hs] at h2
      have h2 := wpOp_putIf hoj (hfree j oj hoj hji hjun hnot) (fun cs b => hsel i oi cs b hi) (fun cs b => hsel j oj cs b hoj) (fun c a w => hQ c a _ _ w) hy h1
      refine wpOp_mono (fun a' w' h3 => ⟨h3.2.1, ?_⟩) h2
      have hy' : YieldsIf P ops (R w') oi v a' := by
        rcases h3.1 with ⟨p1, p2⟩ | p1
        · exact Or.inl ⟨p1, fun x hx => p2 x (ht _ _ _ h3.2.1 hx)⟩
        · exact Or.inr p1
      refine ih (listed.setIfInBounds j true) a' w' ?_ (ready_mono hre (Ne.symm hji)) hy' ?_
      · intro k ok hk hki hun hno
        exact hfree k ok hk hki (set_ne_true hun).2 hno
      · rw [Array.setIfInBounds_comm _ _ hji]
        exact h3.2.2
/-- What is to be shown along a schedule: each operation by its number; true: it only reads. -/
def Sched (P : Program) (ops : Array Oper) (Q : Exit → Act → World → Prop) (R : World → World → Prop) : List (Nat × Bool) → Act → World → Prop
  | [], a, w => Q .normal a w
  | (i, true) :: r, a, w => ∃ o v, ops[i]? = some o ∧ YieldsIf P ops (R w) o v a ∧ Sched P ops Q R r (a.put o.dst v) w
  | (i, false) :: r, a, w => wpOp P ops Q i (fun a' w' => R w w' ∧ Sched P ops Q R r a' w') a w
def okB (ops : Array Oper) : List (Nat × Bool) → Array Bool → Bool
  | [], listed => (Region.ready .any ops listed).isEmpty
  | (i, true) :: r, listed => (Region.ready .any ops listed).contains i && Region.free .any ops listed i && okB ops r (listed.setIfInBounds i true)
  | (i, false) :: r, listed => (Region.ready .any ops listed == [i]) && okB ops r (listed.setIfInBounds i true)
theorem Sched.anyR (hr : ∀ w, R w w) (ht : ∀ a b c, R a b → R b c → R a c) (hsel : Region.noSelect ops = true) (hQ : ∀ c a d v w, Q (.panic c) (a.put d v) w → Q (.panic c) a w) :
    ∀ (s : List (Nat × Bool)) (listed : Array Bool) (a : Act) (w : World), okB ops s listed = true → Sched P ops Q R s a w → AnyR P ops Q R s.length listed a w
  | [], listed, a, w, hk, h => ⟨by simpa [okB] using hk, h⟩
  | (i, true) :: r, listed, a, w, hk, h => by
    obtain ⟨o, v, ho, hy, h⟩ := h
    simp only [okB, Bool.and_eq_true] at hk
    exact AnyR.first hr ht ho (Region.noSelect_spec hsel) hQ _ listed a w (Region.free_spec ho hk.1.2) (by simpa using hk.1.1) hy (Sched.anyR hr ht hsel hQ r _ _ _ hk.2 h)
  | (i, false) :: r, listed, a, w, hk, h => by
    simp only [okB, Bool.and_eq_true, beq_iff_eq] at hk
    refine ⟨fun h0 => (by rw [h0] at hk; cases hk.1), fun j hj => ?_⟩
    rw [hk.1] at hj
    obtain rfl : j = i := by simpa using hj
    exact wpOp_mono (fun a' w' h' => ⟨h'.1, Sched.anyR hr ht hsel hQ r _ _ _ hk.2 h'.2⟩) h
/-- All that is asked of a schedule. -/
def okAll (ops : Array Oper) (s : List (Nat × Bool)) : Bool := okB ops s (Array.replicate ops.size false) && Region.noSelect ops && s.length == ops.size
theorem region {id : Nat} {a : Act} {w : World} (hm : P.follows .mixedOrders = true) (hr : ∀ w, R w w) (ht : ∀ a b c, R a b → R b c → R a c)
    (hQ : ∀ c a d v w, Q (.panic c) (a.put d v) w → Q (.panic c) a w) (s : List (Nat × Bool)) (hk : okAll ops s = true)
    (h : ∀ W, W = w.drew → Sched P ops Q R s a W) : (Code.region id ops true).wp P Q a w := by
  simp only [okAll, Bool.and_eq_true, beq_iff_eq] at hk
  refine wp_region_any hm (AnyR.any (R := R) _ _ _ _ ?_)
  have := Sched.anyR (P := P) (Q := Q) (R := R) hr ht hk.1.2 hQ s _ a _ hk.1.1 (h _ rfl)
  rw [hk.2] at this
  exact this
def nth : List Oper → Nat → Option Oper
  | [], _ => none
  | a :: _, 0 => some a
  | _ :: l, n + 1 => nth l n
theorem nth_eq : ∀ (l : List Oper) (i : Nat), nth l i = l[i]?
  | [], i => by simp [nth]
  | a :: l, 0 => by simp [nth]
  | a :: l, i + 1 => by simp [nth, nth_eq l i]
theorem nth_ops {i : Nat} {o : Oper} (h : nth ops.toList i = some o) : ops[i]? = some o := by
  rw [nth_eq] at h; simpa using h
/-- The guard of an operation: what its guard's slot holds. -/
theorem Sched.y {i : Nat} {r : List (Nat × Bool)} {o : Oper} {T : Array Value} {D : List Deferred} {w : World} {v : Value} {d : Nat} (ho : nth ops.toList i = some o) (hd : o.dst = some d) (hw : Region.wanted o (yielded ops T) = true)
    (hy : ∀ w', R w w' → (execOp (Act.eval ⟨T, D⟩) o).run P w' = .ok (.value v) w') (h : Sched P ops Q R r ⟨T.setIfInBounds d v, D⟩ w) : Sched P ops Q R ((i, true) :: r) ⟨T, D⟩ w :=
  ⟨o, v, nth_ops ho, Or.inl ⟨hw, hy⟩, by rw [hd]; exact h⟩
theorem Sched.n {i : Nat} {r : List (Nat × Bool)} {o : Oper} {T : Array Value} {D : List Deferred} {w : World} {d : Nat} (ho : nth ops.toList i = some o) (hd : o.dst = some d) (hw : Region.wanted o (yielded ops T) = false)
    (h : Sched P ops Q R r ⟨T.setIfInBounds d undef, D⟩ w) : Sched P ops Q R ((i, true) :: r) ⟨T, D⟩ w :=
  ⟨o, undef, nth_ops ho, Or.inr ⟨hw, rfl⟩, by rw [hd]; exact h⟩
theorem Sched.e {i : Nat} {r : List (Nat × Bool)} {o : Oper} {a : Act} {w : World} (ho : nth ops.toList i = some o) (hw : Region.wanted o (yielded ops a.tmps) = true)
    (h : ∀ K : Act → World → Prop, (∀ a' w', R w w' → Sched P ops Q R r a' w' → K a' w') → o.wp P a w K Q) : Sched P ops Q R ((i, false) :: r) a w := by
  show wpOp P ops Q i _ a w
  unfold wpOp
  simp only [nth_ops ho, hw, if_true]
  exact .inl (h _ (fun a' w' h1 h2 => ⟨h1, h2⟩))
theorem Sched.s (hr : ∀ w, R w w) {i : Nat} {r : List (Nat × Bool)} {o : Oper} {T : Array Value} {D : List Deferred} {w : World} {d : Nat} (ho : nth ops.toList i = some o) (hd : o.dst = some d) (hw : Region.wanted o (yielded ops T) = false)
    (h : Sched P ops Q R r ⟨T.setIfInBounds d undef, D⟩ w) : Sched P ops Q R ((i, false) :: r) ⟨T, D⟩ w := by
  show wpOp P ops Q i _ _ w
  unfold wpOp
  simp only [nth_ops ho, hw, Bool.false_eq_true, if_false]
  exact ⟨hr w, by rw [hd]; exact h⟩
theorem Sched.world {r : List (Nat × Bool)} {a : Act} {w : World} (h : ∀ W, W = w → Sched P ops Q R r a W) : Sched P ops Q R r a w := h _ rfl
theorem Sched.z {a : Act} {w : World} (h : Q .normal a w) : Sched P ops Q R [] a w := h
/-- What may be taken first, by its head. -/
def quietB : Op → Bool
  | .move _ | .pick .. | .load .. | .nilCheck _ | .binOp .. | .unOp .. | .convert .. | .slice .. | .fieldAddr .. | .field .. | .indexAddr .. | .index .. | .extract .. | .build .. => true
  | .call { callee := .builtin .len, .. } | .call { callee := .builtin .min, .. } | .call { callee := .builtin .max, .. } => true
  | _ => false
/-- A schedule that takes what only reads first. -/
def plan (ops : Array Oper) : Nat → Array Bool → List (Nat × Bool)
  | 0, _ => []
  | n + 1, listed =>
    let rs := Region.ready .any ops listed
    match rs.find? (fun i => quietB ((ops.getD i default).op) && Region.free .any ops listed i) with
    | some i => (i, true) :: plan ops n (listed.setIfInBounds i true)
    | none => match rs with
      | i :: _ => (i, false) :: plan ops n (listed.setIfInBounds i true)
      | [] => []
def planOf (ops : Array Oper) : List (Nat × Bool) := plan ops ops.size (Array.replicate ops.size false)
/-- A schedule with branches: y: it only reads; e: it alone may come up; b, c: two or three may. -/
inductive Tr where
  | z
  | y (i : Nat) (r : Tr)
  | e (i : Nat) (r : Tr)
  | b (i j : Nat) (r s : Tr)
  | c (i j k : Nat) (r s t : Tr)
def Tr.depth : Tr → Nat
  | .z => 0
  | .y _ r => r.depth + 1
  | .e _ r => r.depth + 1
  | .b _ _ r s => max r.depth s.depth + 1
  | .c _ _ _ r s t => max r.depth (max s.depth t.depth) + 1
def Walk (P : Program) (ops : Array Oper) (Q : Exit → Act → World → Prop) (R : World → World → Prop) : Tr → Act → World → Prop
  | .z, a, w => Q .normal a w
  | .y i r, a, w => ∃ o v, ops[i]? = some o ∧ YieldsIf P ops (R w) o v a ∧ Walk P ops Q R r (a.put o.dst v) w
  | .e i r, a, w => wpOp P ops Q i (fun a' w' => R w w' ∧ Walk P ops Q R r a' w') a w
  | .b i j r s, a, w => wpOp P ops Q i (fun a' w' => R w w' ∧ Walk P ops Q R r a' w') a w ∧ wpOp P ops Q j (fun a' w' => R w w' ∧ Walk P ops Q R s a' w') a w
  | .c i j k r s t, a, w => wpOp P ops Q i (fun a' w' => R w w' ∧ Walk P ops Q R r a' w') a w ∧ wpOp P ops Q j (fun a' w' => R w w' ∧ Walk P ops Q R s a' w') a w ∧ wpOp P ops Q k (fun a' w' => R w w' ∧ Walk P ops Q R t a' w') a w
def okT (ops : Array Oper) : Tr → Array Bool → Bool
  | .z, listed => (Region.ready .any ops listed).isEmpty
  | .y i r, listed => (Region.ready .any ops listed).contains i && Region.free .any ops listed i && okT ops r (listed.setIfInBounds i true)
  | .e i r, listed => (Region.ready .any ops listed == [i]) && okT ops r (listed.setIfInBounds i true)
  | .b i j r s, listed => (Region.ready .any ops listed == [i, j]) && (okT ops r (listed.setIfInBounds i true) && okT ops s (listed.setIfInBounds j true))
  | .c i j k r s t, listed => (Region.ready .any ops listed == [i, j, k]) && (okT ops r (listed.setIfInBounds i true) && (okT ops s (listed.setIfInBounds j true) && okT ops t (listed.setIfInBounds k true)))
theorem Walk.anyR (hr : ∀ w, R w w) (ht : ∀ a b c, R a b → R b c → R a c) (hsel : Region.noSelect ops = true) (hQ : ∀ c a d v w, Q (.panic c) (a.put d v) w → Q (.panic c) a w) :
    ∀ (s : Tr) (n : Nat) (listed : Array Bool) (a : Act) (w : World), s.depth ≤ n → okT ops s listed = true → Walk P ops Q R s a w → AnyR P ops Q R n listed a w
  | .z, 0, listed, a, w, _, hk, h => ⟨by simpa [okT] using hk, h⟩
  | .z, n + 1, listed, a, w, _, hk, h => by
    have h0 : Region.ready .any ops listed = [] := by simpa [okT] using hk
    exact ⟨fun _ => h, fun i hi => by rw [h0] at hi; cases hi⟩
  | .y i r, 0, listed, a, w, hn, hk, h => by simp [Tr.depth] at hn
  | .e i r, 0, listed, a, w, hn, hk, h => by simp [Tr.depth] at hn
  | .b i j r s, 0, listed, a, w, hn, hk, h => by simp [Tr.depth] at hn
  | .c i j k r s t, 0, listed, a, w, hn, hk, h => by simp [Tr.depth] at hn
  | .y i r, n + 1, listed, a, w, hn, hk, h => by
    obtain ⟨o, v, ho, hy, h⟩ := h
    simp only [okT, Bool.and_eq_true] at hk
    exact AnyR.first hr ht ho (Region.noSelect_spec hsel) hQ _ listed a w (Region.free_spec ho hk.1.2) (by simpa using hk.1.1) hy (Walk.anyR hr ht hsel hQ r n _ _ _ (by simp only [Tr.depth] at hn; omega) hk.2 h)
  | .e i r, n + 1, listed, a, w, hn, hk, h => by
    simp only [okT, Bool.and_eq_true, beq_iff_eq] at hk
    simp only [Tr.depth] at hn
    refine ⟨fun h0 => (by rw [h0] at hk; cases hk.1), fun j hj => ?_⟩
    rw [hk.1] at hj
    obtain rfl : j = i := by simpa using hj
    exact wpOp_mono (fun a' w' h' => ⟨h'.1, Walk.anyR hr ht hsel hQ r n _ _ _ (by omega) hk.2 h'.2⟩) h
  | .b i j r s, n + 1, listed, a, w, hn, hk, h => by
    simp only [okT, Bool.and_eq_true, beq_iff_eq] at hk
    simp only [Tr.depth] at hn
    refine ⟨fun h0 => (by rw [h0] at hk; cases hk.1), fun x hx => ?_⟩
    rw [hk.1] at hx
    simp only [List.mem_cons, List.not_mem_nil, or_false] at hx
    rcases hx with rfl | rfl
    · exact wpOp_mono (fun a' w' h' => ⟨h'.1, Walk.anyR hr ht hsel hQ r n _ _ _ (by omega) hk.2.1 h'.2⟩) h.1
    · exact wpOp_mono (fun a' w' h' => ⟨h'.1, Walk.anyR hr ht hsel hQ s n _ _ _ (by omega) hk.2.2 h'.2⟩) h.2
  | .c i j k r s t, n + 1, listed, a, w, hn, hk, h => by
    simp only [okT, Bool.and_eq_true, beq_iff_eq] at hk
    simp only [Tr.depth] at hn
    refine ⟨fun h0 => (by rw [h0] at hk; cases hk.1), fun x hx => ?_⟩
    rw [hk.1] at hx
    simp only [List.mem_cons, List.not_mem_nil, or_false] at hx
    rcases hx with rfl | rfl | rfl
    · exact wpOp_mono (fun a' w' h' => ⟨h'.1, Walk.anyR hr ht hsel hQ r n _ _ _ (by omega) hk.2.1 h'.2⟩) h.1
    · exact wpOp_mono (fun a' w' h' => ⟨h'.1, Walk.anyR hr ht hsel hQ s n _ _ _ (by omega) hk.2.2.1 h'.2⟩) h.2.1
    · exact wpOp_mono (fun a' w' h' => ⟨h'.1, Walk.anyR hr ht hsel hQ t n _ _ _ (by omega) hk.2.2.2 h'.2⟩) h.2.2
def okAllT (ops : Array Oper) (s : Tr) : Bool := okT ops s (Array.replicate ops.size false) && Region.noSelect ops && s.depth == ops.size
theorem regionT {id : Nat} {a : Act} {w : World} (hm : P.follows .mixedOrders = true) (hr : ∀ w, R w w) (ht : ∀ a b c, R a b → R b c → R a c)
    (hQ : ∀ c a d v w, Q (.panic c) (a.put d v) w → Q (.panic c) a w) (s : Tr) (hk : okAllT ops s = true)
    (h : ∀ W, W = w.drew → Walk P ops Q R s a W) : (Code.region id ops true).wp P Q a w := by
  simp only [okAllT, Bool.and_eq_true, beq_iff_eq] at hk
  exact wp_region_any hm (AnyR.any (R := R) _ _ _ _ (Walk.anyR (P := P) (Q := Q) (R := R) hr ht hk.1.2 hQ s _ _ a _ (Nat.le_of_eq hk.2) hk.1.1 (h _ rfl)))
theorem Walk.ys {i : Nat} {r : Tr} {o : Oper} {T : Array Value} {D : List Deferred} {w : World} {v : Value} {d : Nat} (ho : nth ops.toList i = some o) (hd : o.dst = some d) (hw : Region.wanted o (yielded ops T) = true)
    (hy : ∀ w', R w w' → (execOp (Act.eval ⟨T, D⟩) o).run P w' = .ok (.value v) w') (h : Walk P ops Q R r ⟨T.setIfInBounds d v, D⟩ w) : Walk P ops Q R (.y i r) ⟨T, D⟩ w :=
  ⟨o, v, nth_ops ho, Or.inl ⟨hw, hy⟩, by rw [hd]; exact h⟩
theorem Walk.yn {i : Nat} {r : Tr} {o : Oper} {T : Array Value} {D : List Deferred} {w : World} {d : Nat} (ho : nth ops.toList i = some o) (hd : o.dst = some d) (hw : Region.wanted o (yielded ops T) = false)
    (h : Walk P ops Q R r ⟨T.setIfInBounds d undef, D⟩ w) : Walk P ops Q R (.y i r) ⟨T, D⟩ w :=
  ⟨o, undef, nth_ops ho, Or.inr ⟨hw, rfl⟩, by rw [hd]; exact h⟩
theorem stepE {i : Nat} {r : Tr} {o : Oper} {a : Act} {w : World} (ho : nth ops.toList i = some o) (hw : Region.wanted o (yielded ops a.tmps) = true)
    (h : ∀ K : Act → World → Prop, (∀ a' w', R w w' → Walk P ops Q R r a' w' → K a' w') → o.wp P a w K Q) : wpOp P ops Q i (fun a' w' => R w w' ∧ Walk P ops Q R r a' w') a w := by
  unfold wpOp
  simp only [nth_ops ho, hw, if_true]
  exact .inl (h _ (fun a' w' h1 h2 => ⟨h1, h2⟩))
theorem stepN (hr : ∀ w, R w w) {i : Nat} {r : Tr} {o : Oper} {T : Array Value} {D : List Deferred} {w : World} {d : Nat} (ho : nth ops.toList i = some o) (hd : o.dst = some d) (hw : Region.wanted o (yielded ops T) = false)
    (h : Walk P ops Q R r ⟨T.setIfInBounds d undef, D⟩ w) : wpOp P ops Q i (fun a' w' => R w w' ∧ Walk P ops Q R r a' w') ⟨T, D⟩ w := by
  unfold wpOp
  simp only [nth_ops ho, hw, Bool.false_eq_true, if_false]
  exact ⟨hr w, by rw [hd]; exact h⟩
theorem Walk.es {i : Nat} {r : Tr} {a : Act} {w : World} (h : wpOp P ops Q i (fun a' w' => R w w' ∧ Walk P ops Q R r a' w') a w) : Walk P ops Q R (.e i r) a w := h
theorem Walk.bs {i j : Nat} {r s : Tr} {a : Act} {w : World} (h : wpOp P ops Q i (fun a' w' => R w w' ∧ Walk P ops Q R r a' w') a w) (h' : wpOp P ops Q j (fun a' w' => R w w' ∧ Walk P ops Q R s a' w') a w) : Walk P ops Q R (.b i j r s) a w := ⟨h, h'⟩
theorem Walk.cs {i j k : Nat} {r s t : Tr} {a : Act} {w : World} (h : wpOp P ops Q i (fun a' w' => R w w' ∧ Walk P ops Q R r a' w') a w) (h' : wpOp P ops Q j (fun a' w' => R w w' ∧ Walk P ops Q R s a' w') a w) (h'' : wpOp P ops Q k (fun a' w' => R w w' ∧ Walk P ops Q R t a' w') a w) : Walk P ops Q R (.c i j k r s t) a w := ⟨h, h', h''⟩
theorem Walk.world {r : Tr} {a : Act} {w : World} (h : ∀ W, W = w → Walk P ops Q R r a W) : Walk P ops Q R r a w := h _ rfl
theorem Walk.zs {a : Act} {w : World} (h : Q .normal a w) : Walk P ops Q R .z a w := h
end
end Go.Proofs.Ytdpmjghdmpaehaa.rgn
