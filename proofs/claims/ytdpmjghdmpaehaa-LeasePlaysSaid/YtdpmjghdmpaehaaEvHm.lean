/-
  Maps, and rows copied and cleared. Conditions: none.
-/
import Derived.Test.YtdpmjghdmpaehaaEvH
import Derived.WideKeyRuns
import Derived.Laws.StructEq
namespace Go.Proofs.Ytdpmjghdmpaehaa.ev
set_option linter.unusedVariables false
set_option linter.unusedSimpArgs false
variable {P : Program} {N : Nat} {β : Mp}
/-- What a piece of the model's yields that asks nothing of the world. -/
def quiet (P : Program) {α : Type} : Sem α → Option α
  | .pure a => some a
  | .program k => quiet P (k P)
  | .mark _ k => quiet P k
  | _ => none
theorem quiet_run {α : Type} : ∀ (s : Sem α) (a : α), quiet P s = some a → ∀ w, s.run P w = .ok a w
  | .pure b, a, h, w => by simp only [quiet, Option.some.injEq] at h; subst h; rfl
  | .program k, a, h, w => by simp only [quiet] at h; exact quiet_run (k P) a h w
  | .mark m k, a, h, w => by simp only [quiet] at h; exact quiet_run k a h w
  | .load .., a, h, w => by simp [quiet] at h
  | .store .., a, h, w => by simp [quiet] at h
  | .new .., a, h, w => by simp [quiet] at h
  | .shape .., a, h, w => by simp [quiet] at h
  | .freeze .., a, h, w => by simp [quiet] at h
  | .frozen .., a, h, w => by simp [quiet] at h
  | .getObj .., a, h, w => by simp [quiet] at h
  | .setObj .., a, h, w => by simp [quiet] at h
  | .choose .., a, h, w => by simp [quiet] at h
  | .sys .., a, h, w => by simp [quiet] at h
  | .halt .., a, h, w => by simp [quiet] at h
theorem quiet_bind {α γ : Type} : ∀ (s : Sem α) (f : α → Sem γ) (r : γ), quiet P (s.bind f) = some r → ∃ a, quiet P s = some a ∧ quiet P (f a) = some r
  | .pure b, f, r, h => ⟨b, rfl, h⟩
  | .program k, f, r, h => by simp only [Sem.bind, quiet] at h; obtain ⟨a, h1, h2⟩ := quiet_bind (k P) f r h; exact ⟨a, by simpa only [quiet] using h1, h2⟩
  | .mark m k, f, r, h => by simp only [Sem.bind, quiet] at h; obtain ⟨a, h1, h2⟩ := quiet_bind k f r h; exact ⟨a, by simpa only [quiet] using h1, h2⟩
  | .load .., f, r, h => by simp [Sem.bind, quiet] at h
  | .store .., f, r, h => by simp [Sem.bind, quiet] at h
  | .new .., f, r, h => by simp [Sem.bind, quiet] at h
  | .shape .., f, r, h => by simp [Sem.bind, quiet] at h
  | .freeze .., f, r, h => by simp [Sem.bind, quiet] at h
  | .frozen .., f, r, h => by simp [Sem.bind, quiet] at h
  | .getObj .., f, r, h => by simp [Sem.bind, quiet] at h
  | .setObj .., f, r, h => by simp [Sem.bind, quiet] at h
  | .choose .., f, r, h => by simp [Sem.bind, quiet] at h
  | .sys .., f, r, h => by simp [Sem.bind, quiet] at h
  | .halt .., f, r, h => by simp [Sem.bind, quiet] at h
/-! ### Keys -/
/-- Two answers to one search over entries of the same keys. -/
def Hits (l l' : List MapEntry) (i : Nat) (r r' : Option (Nat × Value)) : Prop :=
  (r = none ∧ r' = none) ∨ ∃ j e e', l[j]? = some e ∧ l'[j]? = some e' ∧ r = some (i + j, e.val) ∧ r' = some (i + j, e'.val)
theorem Hits.tail {e e' : MapEntry} {l l' : List MapEntry} {i : Nat} {r r' : Option (Nat × Value)} (h : Hits l l' (i + 1) r r') : Hits (e :: l) (e' :: l') i r r' := by
  rcases h with h | ⟨j, a, a', h1, h2, h3, h4⟩
  · exact .inl h
  · exact .inr ⟨j + 1, a, a', by simpa using h1, by simpa using h2, by rw [h3]; congr 2; omega, by rw [h4]; congr 2; omega⟩
theorem findNow_keys [Env] {d : TypeDesc} {k : Value} : ∀ (l l' : List MapEntry) (i : Nat), l.map (·.key) = l'.map (·.key) →
    (Instr.findNow d k l i = none ∧ Instr.findNow d k l' i = none) ∨ ∃ r r', Instr.findNow d k l i = some r ∧ Instr.findNow d k l' i = some r' ∧ Hits l l' i r r'
  | [], l', i, h => by
    have : l' = [] := by simpa using h.symm
    subst this
    exact .inr ⟨none, none, rfl, rfl, .inl ⟨rfl, rfl⟩⟩
  | e :: l, l', i, h => by
    cases l' with
    | nil => simp at h
    | cons e' l' =>
      simp only [List.map_cons, List.cons.injEq] at h
      simp only [Instr.findNow]
      rw [← h.1]
      cases hs : Instr.sameNow d k e.key with
      | none => exact .inl ⟨rfl, rfl⟩
      | some b =>
        cases b with
        | true => exact .inr ⟨_, _, rfl, rfl, .inr ⟨0, e, e', rfl, rfl, rfl, rfl⟩⟩
        | false =>
          rcases findNow_keys (d := d) (k := k) l l' (i + 1) h.2 with h1 | ⟨r, r', h1, h2, h3⟩
          · exact .inl h1
          · exact .inr ⟨r, r', h1, h2, h3.tail⟩
theorem findAsking_keys [Env] {kt : TypeId} {k : Value} : ∀ (l l' : List MapEntry) (i : Nat) (r : Option (Nat × Value)), l.map (·.key) = l'.map (·.key) → quiet P (Instr.findAsking kt k l i) = some r →
    ∃ r', Hits l l' i r r' ∧ ∀ w, (Instr.findAsking kt k l' i).run P w = .ok r' w
  | [], l', i, r, h, hq => by
    have : l' = [] := by simpa using h.symm
    subst this
    simp only [Instr.findAsking] at hq
    have : r = none := by
      have : quiet P (Sem.pure (none : Option (Nat × Value))) = some r := hq
      simp only [quiet, Option.some.injEq] at this
      exact this.symm
    subst this
    exact ⟨none, .inl ⟨rfl, rfl⟩, fun w => rfl⟩
  | e :: l, l', i, r, h, hq => by
    cases l' with
    | nil => simp at h
    | cons e' l' =>
      simp only [List.map_cons, List.cons.injEq] at h
      simp only [Instr.findAsking] at hq ⊢
      obtain ⟨b, h1, h2⟩ := quiet_bind (P := P) (Op.equal kt k e.key) _ r hq
      have h3 := quiet_run _ _ h1
      rw [h.1] at h3
      cases b with
      | true =>
        simp only [if_true] at h2
        have : some (i, e.val) = r := by
          have : quiet P (Sem.pure (some (i, e.val))) = some r := h2
          simpa only [quiet, Option.some.injEq] using this
        subst this
        refine ⟨some (i, e'.val), .inr ⟨0, e, e', rfl, rfl, rfl, rfl⟩, fun w => ?_⟩
        simp only [Sem.run_bind, h3, Result.andThen_ok, if_true, Sem.run_pure]
      | false =>
        simp only [Bool.false_eq_true, if_false] at h2
        obtain ⟨r', k1, k2⟩ := findAsking_keys l l' (i + 1) r h.2 h2
        refine ⟨r', k1.tail, fun w => ?_⟩
        simp only [Sem.run_bind, h3, Result.andThen_ok, Bool.false_eq_true, if_false, k2]
theorem findKey_keys [Env] {kt : TypeId} {k : Value} {l l' : List MapEntry} {r : Option (Nat × Value)} (h : l.map (·.key) = l'.map (·.key)) (hq : quiet P (Instr.findKey kt k l) = some r) :
    ∃ r', Hits l l' 0 r r' ∧ ∀ w, (Instr.findKey kt k l').run P w = .ok r' w := by
  unfold Instr.findKey at hq ⊢
  obtain ⟨d, h1, h2⟩ := quiet_bind (P := P) (underlying kt) _ r hq
  have h3 := quiet_run _ _ h1
  rcases findNow_keys (d := d) (k := k) l l' 0 h with ⟨k1, k2⟩ | ⟨s, s', k1, k2, k3⟩
  · simp only [k1] at h2
    obtain ⟨r', e1, e2⟩ := findAsking_keys l l' 0 r h h2
    exact ⟨r', e1, fun w => by simp only [Sem.run_bind, h3, Result.andThen_ok, k2, e2]⟩
  · simp only [k1] at h2
    have : s = r := by
      have : quiet P (Sem.pure s) = some r := h2
      simpa only [quiet, Option.some.injEq] using this
    subst this
    exact ⟨s', k3, fun w => by simp only [Sem.run_bind, h3, Result.andThen_ok, k2, Sem.run_pure]⟩
/-- Where a key's entry is. -/
def findIx (P : Program) (kt : TypeId) (k : Value) (empty : Bool) (es : List MapEntry) : Option (Option Nat) :=
  match flat k && es.all (fun e => flat e.key) with
  | true => match quiet P (Instr.checkKey empty 10000 kt k) with
    | some _ => match quiet P (Instr.findKey kt k es) with
      | some none => some none
      | some (some p) => some (some p.1)
      | none => none
    | none => none
  | false => none
def MW [Env] (β : Mp) (es : List MapEntry) (es' : Array MapEntry) : Prop := es'.size = es.length ∧ ∀ (j : Nat) (e e' : MapEntry), es[j]? = some e → es'[j]? = some e' → VR β e.key e'.key ∧ VR β e.val e'.val ∧ e'.born = e.born
theorem MW.keys [Env] {es : List MapEntry} {es' : Array MapEntry} (h : MW β es es') (hf : es.all (fun e => flat e.key) = true) : es.map (·.key) = es'.toList.map (·.key) := by
  apply List.ext_getElem
  · simp [h.1]
  · intro i h1 h2
    simp only [List.length_map, Array.length_toList] at h1 h2
    simp only [List.getElem_map, Array.getElem_toList]
    have := h.2 i es[i] es'[i] (List.getElem?_eq_getElem h1) (Array.getElem?_eq_getElem h2)
    rw [List.all_eq_true] at hf
    exact this.1.flat_eq 6 (hf _ (List.getElem_mem h1))
theorem findIx_ok [Env] {kt : TypeId} {k k' : Value} {empty : Bool} {es : List MapEntry} {es' : Array MapEntry} {r : Option Nat} (hk : VR β k k') (hm : MW β es es') (h : findIx P kt k empty es = some r) :
    k' = k ∧ flat k = true ∧ (∀ w, (Instr.checkKey empty 10000 kt k).run P w = .ok () w) ∧
    ((r = none ∧ ∀ w, (Instr.findKey kt k es'.toList).run P w = .ok none w) ∨ ∃ j e e', r = some j ∧ es[j]? = some e ∧ es'[j]? = some e' ∧ flat e.key = true ∧ ∀ w, (Instr.findKey kt k es'.toList).run P w = .ok (some (j, e'.val)) w) := by
  unfold findIx at h
  split at h
  · rename_i hfl
    simp only [Bool.and_eq_true] at hfl
    split at h
    · rename_i u hc
      have hk' := (hk.flat_eq 6 hfl.1).symm
      refine ⟨hk', hfl.1, fun w => quiet_run _ _ hc w, ?_⟩
      split at h
      · rename_i hq
        simp only [Option.some.injEq] at h; subst h
        obtain ⟨r', h1, h2⟩ := findKey_keys (P := P) (hm.keys hfl.2) hq
        rcases h1 with ⟨_, rfl⟩ | ⟨j, e, e', _, _, h3, _⟩
        · exact .inl ⟨rfl, h2⟩
        · cases h3
      · rename_i p hq
        simp only [Option.some.injEq] at h; subst h
        obtain ⟨r', h1, h2⟩ := findKey_keys (P := P) (hm.keys hfl.2) hq
        rcases h1 with ⟨h3, _⟩ | ⟨j, e, e', h3, h4, h5, h6⟩
        · cases h3
        · refine .inr ⟨j, e, e', ?_, h3, by simpa using h4, ?_, ?_⟩
          · simp only [Option.some.injEq] at h5
            rw [h5]; simp
          · have := hfl.2
            rw [List.all_eq_true] at this
            exact this e (List.mem_of_getElem? h3)
          · rw [h6] at h2
            simpa using h2
      · cases h
    · cases h
  · cases h
/-! ### Keys that are not looked into -/
def isOp : Value → Bool
  | .chan (some j) => Nat.blt j 1000
  | _ => false
def sameOp : Value → Value → Bool
  | .chan (some a), .chan (some b) => Nat.beq a b
  | _, _ => false
def isIntT (P : Program) (t : TypeId) : Bool := match P.underlying t with
  | some (.int _) => true
  | _ => false
def findOp (k : Value) : List MapEntry → Option (Option Nat)
  | [] => some none
  | e :: _ => match sameOp k e.key with
    | true => some (some 0)
    | false => none
theorem isOp_some {k : Value} (h : isOp k = true) : ∃ j, k = .chan (some j) ∧ j < 1000 := by
  unfold isOp at h
  split at h
  · exact ⟨_, rfl, Nat.le_of_ble_eq_true h⟩
  · cases h
theorem VR.op_eq [Env] {j : Nat} {v' : Value} (h : VR β (.chan (some j)) v') : v' = Env.E j := by
  generalize hE : Env.E j = y
  cases h with
  | opq j h1 h2 => exact hE
theorem run_checkKey_int (d : Nat) {empty : Bool} {kt : TypeId} {ik kk : IntKind} {n : Int} (hu : P.underlying kt = some (.int ik)) (w : World) : (Instr.checkKey empty (d + 1) kt (.int kk n)).run P w = .ok () w := by
  simp [Instr.checkKey, Sem.run_bind, run_underlying hu]
/-! ### Keys of several cells -/
def cellEq : Value → Value → Option Bool
  | .chan (some i), .chan (some j) => match Nat.beq i j && Nat.blt i 1000 with
    | true => some true
    | false => none
  | .int k a, .int l b => match decide (k = l) with
    | true => some (decide (a = b))
    | false => none
  | _, _ => none
theorem cellEq_ok [Env] {x y x' y' : Value} {b : Bool} (h : cellEq x y = some b) (hx : VR β x x') (hy : VR β y y') : ∃ k m n, x' = .int k m ∧ y' = .int k n ∧ decide (m = n) = b := by
  unfold cellEq at h
  split at h
  · rename_i i j
    split at h
    · rename_i hb
      simp only [Bool.and_eq_true] at hb
      have e := Nat.of_beq hb.1
      subst e
      have hj : i < 1000 := Nat.le_of_ble_eq_true hb.2
      obtain ⟨k, n, hE⟩ := Env.num i hj
      simp only [Option.some.injEq] at h
      exact ⟨k, n, n, by rw [hx.op_eq, hE], by rw [hy.op_eq, hE], by rw [← h]; simp⟩
    · cases h
  · rename_i k a l b'
    split at h
    · rename_i hk
      have e := of_decide_eq_true hk
      subst e
      simp only [Option.some.injEq] at h
      exact ⟨k, a, b', hx.int_eq, hy.int_eq, h⟩
    · cases h
  · cases h
def keyFields (P : Program) (xs ys : List Value) : List Field → Option Bool
  | [] => some true
  | f :: fs => match isIntT P f.type && !(decide (f.name = "_")) with
    | true => match xs[f.offset]? with
      | some x => match ys[f.offset]? with
        | some y => match cellEq x y with
          | some true => keyFields P xs ys fs
          | some false => some false
          | none => none
        | none => none
      | none => none
    | false => none
theorem isIntT_some {t : TypeId} (h : isIntT P t = true) : ∃ ik, P.underlying t = some (.int ik) := by
  unfold isIntT at h
  split at h
  · exact ⟨_, by assumption⟩
  · cases h
theorem part_int {t : TypeId} {xs : List Value} {off : Nat} {x : Value} (h : isIntT P t = true) (hx : xs[off]? = some x) : partOf P t xs off = some x := by
  obtain ⟨ik, hu⟩ := isIntT_some h
  unfold partOf
  simp only [hu, TypeDesc.isRow]
  exact hx
theorem run_equalIn_int {t : TypeId} (h : isIntT P t = true) (d : Nat) (k : IntKind) (m n : Int) (w : World) : (Op.equalIn (d + 1) t (.int k m) (.int k n)).run P w = .ok (m == n) w := by
  obtain ⟨ik, hu⟩ := isIntT_some h
  simp [Op.equalIn, Sem.run_bind, run_underlying hu]
theorem keyFields_ok [Env] {xs xs' ys ys' : Array Value} (hx : PW β xs.toList xs'.toList) (hy : PW β ys.toList ys'.toList) (d : Nat) : ∀ (fs : List Field) (b : Bool), keyFields P xs.toList ys.toList fs = some b → ∀ w, (Op.eqFields (d + 1) xs' ys' fs).run P w = .ok b w
  | [], b, h, w => by
    simp only [keyFields, Option.some.injEq] at h
    subst h
    simp [Op.eqFields]
  | f :: fs, b, h, w => by
    simp only [keyFields] at h
    split at h
    · rename_i hb
      simp only [Bool.and_eq_true, Bool.not_eq_true'] at hb
      obtain ⟨hi, hn⟩ := hb
      have hn := of_decide_eq_false hn
      split at h
      · rename_i x hxo
        split at h
        · rename_i y hyo
          obtain ⟨x', hvx, rx⟩ := partOf_ok (P := P) hx (part_int hi hxo)
          obtain ⟨y', hvy, ry⟩ := partOf_ok (P := P) hy (part_int hi hyo)
          split at h
          · rename_i hc
            obtain ⟨k, m, n, rfl, rfl, e⟩ := cellEq_ok hc hvx hvy
            have e : m = n := of_decide_eq_true e
            subst e
            have ih := keyFields_ok hx hy d fs b h
            simp [Op.eqFields, hn, Sem.run_bind, rx, ry, run_equalIn_int hi, ih]
          · rename_i hc
            obtain ⟨k, m, n, rfl, rfl, e⟩ := cellEq_ok hc hvx hvy
            have e : ¬ m = n := of_decide_eq_false e
            simp only [Option.some.injEq] at h
            subst h
            simp [Op.eqFields, hn, Sem.run_bind, rx, ry, run_equalIn_int hi, e]
          · cases h
        · cases h
      · cases h
    · cases h
def kEq (P : Program) (t : TypeId) (x y : Value) : Option Bool :=
  match P.underlying t with
  | some (.struct fs) => match P.stoodInHeld t with
    | false => match x with
      | .agg xs => match y with
        | .agg ys => keyFields P xs.toList ys.toList fs.toList
        | _ => none
      | _ => none
    | true => none
  | _ => none
theorem kEq_ok [Env] {t : TypeId} {x y x' y' : Value} {b : Bool} (h : kEq P t x y = some b) (hx : VR β x x') (hy : VR β y y') (w : World) : (Op.equal t x' y').run P w = .ok b w := by
  unfold kEq at h
  split at h
  · rename_i fs hu
    split at h
    · rename_i hs
      split at h
      · rename_i xs
        split at h
        · rename_i ys
          cases hx with
          | agg g1 g2 => cases hy with
            | agg g3 g4 =>
              have hf : P.fieldsOf t = fs := by simp [Program.fieldsOf, hu]
              unfold Op.equal
              rw [show Op.maxDepth = 9998 + 1 + 1 from rfl, run_equalIn_struct w (9998 + 1) t _ _ (by rw [hf]; exact hu) hs, hf]
              exact keyFields_ok (PW.of_arr g1 g2) (PW.of_arr g3 g4) 9998 _ _ h w
        · cases h
      · cases h
    · cases h
  · cases h
def findKs (P : Program) (kt : TypeId) (k : Value) : List MapEntry → Nat → Option (Option Nat)
  | [], _ => some none
  | e :: es, i => match kEq P kt k e.key with
    | some true => some (some i)
    | some false => findKs P kt k es (i + 1)
    | none => none
theorem findKs_ok [Env] {kt : TypeId} {k k' : Value} (hk : VR β k k') : ∀ (l l' : List MapEntry) (i : Nat) (r : Option Nat), l'.length = l.length → (∀ (j : Nat) (e e' : MapEntry), l[j]? = some e → l'[j]? = some e' → VR β e.key e'.key) → findKs P kt k l i = some r →
    (r = none ∧ ∀ w, (Instr.findAsking kt k' l' i).run P w = .ok none w) ∨ ∃ j e e', r = some (i + j) ∧ l[j]? = some e ∧ l'[j]? = some e' ∧ ∀ w, (Instr.findAsking kt k' l' i).run P w = .ok (some (i + j, e'.val)) w
  | [], l', i, r, hl, _, h => by
    simp only [findKs, Option.some.injEq] at h
    subst h
    have : l' = [] := List.eq_nil_of_length_eq_zero (by simpa using hl)
    subst this
    exact .inl ⟨rfl, fun w => by simp [Instr.findAsking]⟩
  | e :: l, [], i, r, hl, _, h => by simp at hl
  | e :: l, e' :: l', i, r, hl, he, h => by
    simp only [findKs] at h
    have h0 := he 0 e e' rfl rfl
    split at h
    · rename_i hb
      simp only [Option.some.injEq] at h
      subst h
      exact .inr ⟨0, e, e', rfl, rfl, rfl, fun w => by simp [Instr.findAsking, Sem.run_bind, kEq_ok hb hk h0]⟩
    · rename_i hb
      rcases findKs_ok hk l l' (i + 1) r (by simpa using hl) (fun j a a' h1 h2 => he (j + 1) a a' (by simpa using h1) (by simpa using h2)) h with ⟨h1, h2⟩ | ⟨j, a, a', h1, h2, h3, h4⟩
      · exact .inl ⟨h1, fun w => by simp [Instr.findAsking, Sem.run_bind, kEq_ok hb hk h0, h2]⟩
      · exact .inr ⟨j + 1, a, a', by rw [h1]; exact congrArg some (by omega), by simpa using h2, by simpa using h3, fun w => by simp [Instr.findAsking, Sem.run_bind, kEq_ok hb hk h0, h4]; omega⟩
    · cases h
def keyIn (P : Program) (xs : List Value) : List Field → Bool
  | [] => true
  | f :: fs => match isIntT P f.type with
    | true => match xs[f.offset]? with
      | some _ => keyIn P xs fs
      | none => false
    | false => false
theorem checkKey_int {t : TypeId} (h : isIntT P t = true) (empty : Bool) (d : Nat) (v : Value) (w : World) : (Instr.checkKey empty (d + 1) t v).run P w = .ok () w := by
  obtain ⟨ik, hu⟩ := isIntT_some h
  simp [Instr.checkKey, Sem.run_bind, run_underlying hu]
theorem keyIn_run [Env] {xs xs' : Array Value} (hx : PW β xs.toList xs'.toList) (empty : Bool) (d : Nat) : ∀ (fs : List Field), keyIn P xs.toList fs = true → ∀ w, (forIn fs PUnit.unit (fun f (_ : PUnit) => (do
    if f.name ≠ "_" then Instr.checkKey empty (d + 1) f.type (← part f.type xs' f.offset)
    pure (ForInStep.yield PUnit.unit) : Sem (ForInStep PUnit)))).run P w = .ok PUnit.unit w
  | [], h, w => by simp
  | f :: fs, h, w => by
    simp only [keyIn] at h
    split at h
    · rename_i hi
      split at h
      · rename_i x hxo
        obtain ⟨x', hvx, rx⟩ := partOf_ok (P := P) hx (part_int hi hxo)
        have ih := keyIn_run hx empty d fs h
        have ih := ih w
        by_cases hn : f.name = "_"
        · simp [hn, Sem.run_bind, rx, checkKey_int hi] at ih ⊢
          exact ih
        · simp [hn, Sem.run_bind, rx, checkKey_int hi] at ih ⊢
          exact ih
      · cases h
    · cases h
def keyAll (P : Program) (t : TypeId) (x : Value) : Bool :=
  match P.underlying t with
  | some (.struct fs) => match x with
    | .agg xs => keyIn P xs.toList fs.toList
    | _ => false
  | _ => false
theorem keyAll_ok [Env] {t : TypeId} {x x' : Value} (h : keyAll P t x = true) (hx : VR β x x') (empty : Bool) (w : World) : (Instr.checkKey empty 10000 t x').run P w = .ok () w := by
  unfold keyAll at h
  split at h
  · rename_i fs hu
    split at h
    · rename_i xs
      cases hx with
      | agg g1 g2 =>
        have := keyIn_run (P := P) (PW.of_arr g1 g2) empty 9998 fs.toList h w
        rw [show (10000 : Nat) = 9998 + 1 + 1 from rfl, Instr.checkKey]
        simp only [Sem.run_bind, run_underlying hu, Result.andThen_ok]
        rw [← Array.forIn_toList]
        simp at this ⊢
        rw [this]
        rfl
    · cases h
  · cases h
def findKz (P : Program) (kt : TypeId) (k : Value) (es : List MapEntry) : Option (Option Nat) :=
  match keyAll P kt k with
  | true => findKs P kt k es 0
  | false => none
theorem findKz_ok [Env] {kt : TypeId} {k k' : Value} {empty : Bool} {es : List MapEntry} {es' : Array MapEntry} {r : Option Nat} (hk : VR β k k') (hm : MW β es es') (h : findKz P kt k es = some r) :
    (∀ w, (Instr.checkKey empty 10000 kt k').run P w = .ok () w) ∧
    ((r = none ∧ ∀ w, (Instr.findKey kt k' es'.toList).run P w = .ok none w) ∨ ∃ j e e', r = some j ∧ es[j]? = some e ∧ es'[j]? = some e' ∧ True ∧ ∀ w, (Instr.findKey kt k' es'.toList).run P w = .ok (some (j, e'.val)) w) := by
  unfold findKz at h
  split at h
  · rename_i ha
    refine ⟨keyAll_ok ha hk empty, ?_⟩
    have hwide : (match P.underlying kt with | some (.array _ _) | some (.struct _) => true | _ => false) = true := by
      unfold keyAll at ha
      split at ha
      · rename_i hu; simp [hu]
      · cases ha
    rcases findKs_ok hk es es'.toList 0 r (by simpa using hm.1) (fun j e e' h1 h2 => (hm.2 j e e' h1 (by simpa using h2)).1) h with ⟨h1, h2⟩ | ⟨j, e, e', h1, h2, h3, h4⟩
    · exact .inl ⟨h1, fun w => by rw [run_findKey_eq w hwide]; exact h2 w⟩
    · exact .inr ⟨j, e, e', by simpa using h1, h2, by simpa using h3, trivial, fun w => by rw [run_findKey_eq w hwide]; simpa using h4 w⟩
  · cases h
def findIy (P : Program) (kt : TypeId) (k : Value) (empty : Bool) (es : List MapEntry) : Option (Option Nat) :=
  match isOp k && isIntT P kt with
  | true => findOp k es
  | false => match findIx P kt k empty es with
    | some r => some r
    | none => findKz P kt k es
theorem findIy_ok [Env] {kt : TypeId} {k k' : Value} {empty : Bool} {es : List MapEntry} {es' : Array MapEntry} {r : Option Nat} (hk : VR β k k') (hm : MW β es es') (h : findIy P kt k empty es = some r) :
    (∀ w, (Instr.checkKey empty 10000 kt k').run P w = .ok () w) ∧
    ((r = none ∧ ∀ w, (Instr.findKey kt k' es'.toList).run P w = .ok none w) ∨ ∃ j e e', r = some j ∧ es[j]? = some e ∧ es'[j]? = some e' ∧ True ∧ ∀ w, (Instr.findKey kt k' es'.toList).run P w = .ok (some (j, e'.val)) w) := by
  unfold findIy at h
  split at h
  · rename_i hb
    simp only [Bool.and_eq_true] at hb
    obtain ⟨j, rfl, hj⟩ := isOp_some hb.1
    have hk' := hk.op_eq
    obtain ⟨kk, n, hE⟩ := Env.num j hj
    rw [hE] at hk'
    subst hk'
    have hu : ∃ ik, P.underlying kt = some (.int ik) := by
      have := hb.2
      unfold isIntT at this
      split at this
      · exact ⟨_, by assumption⟩
      · cases this
    obtain ⟨ik, hu⟩ := hu
    refine ⟨fun w => run_checkKey_int 9999 hu w, ?_⟩
    cases es with
    | nil =>
      simp only [findOp, Option.some.injEq] at h; subst h
      have : es'.toList = [] := List.eq_nil_of_length_eq_zero (by rw [Array.length_toList, hm.1]; rfl)
      refine .inl ⟨rfl, fun w => ?_⟩
      rw [this]
      simp [Instr.findKey, Instr.findNow, Sem.run_bind, run_underlying hu]
    | cons e l =>
      simp only [findOp] at h
      split at h
      · rename_i hs
        simp only [Option.some.injEq] at h; subst h
        have hek : e.key = .chan (some j) := by
          generalize e.key = q at hs
          unfold sameOp at hs
          split at hs
          · rename_i heq
            cases heq
            rw [Nat.of_beq hs]
          · cases hs
        have hlen : 0 < es'.size := by rw [hm.1]; exact Nat.succ_pos _
        have h0 := hm.2 0 e es'[0] rfl (Array.getElem?_eq_getElem hlen)
        have hk0 := h0.1
        rw [hek] at hk0
        have hk0 := hk0.op_eq
        rw [hE] at hk0
        refine .inr ⟨0, e, es'[0], rfl, rfl, Array.getElem?_eq_getElem hlen, trivial, fun w => ?_⟩
        have hl : es'.toList = es'[0] :: es'.toList.tail := by
          cases hq : es'.toList with
          | nil =>
            have h1 : es'.toList.length = 0 := by rw [hq]; rfl
            rw [Array.length_toList] at h1
            omega
          | cons a t =>
            have : es'[0] = a := by
              have h1 : es'.toList[0]? = some a := by rw [hq]; rfl
              rw [Array.getElem?_toList, Array.getElem?_eq_getElem hlen] at h1
              simpa using h1
            rw [this]; rfl
        rw [hl]
        simp [Instr.findKey, Instr.findNow, Instr.sameNow, hk0, Sem.run_bind, run_underlying hu]
      · cases h
  · split at h
    · rename_i r' hr
      cases h
      obtain ⟨rfl, _, h1, h2⟩ := findIx_ok (P := P) hk hm hr
      refine ⟨h1, ?_⟩
      rcases h2 with h2 | ⟨j, e, e', a1, a2, a3, _, a4⟩
      · exact .inl h2
      · exact .inr ⟨j, e, e', a1, a2, a3, trivial, a4⟩
    · exact findKz_ok hk hm h
/-! ### Maps -/
def evMakeMap (P : Program) (t : TypeId) : List Value → Comp Value
  | [] => bind (nw (.map [] 0)) fun i => ret (.map (some i))
  | [.int _ _] => match P.underlying t with
    | some (.map _ _) => bind (nw (.map [] 0)) fun i => ret (.map (some i))
    | _ => fail
  | _ => fail
theorem newMap_ok [Env] {s : Sem Value} (hr : ∀ w, s.run P w = .ok (.map (some w.heap.size)) (w.alloc (.map #[] 0))) : RunS P N β (bind (nw (.map [] 0)) fun i => ret (.map (some i))) s := fun c h o w he hs hN hf => by
  obtain ⟨o1, q1, ho1, hq1, rfl⟩ := bind_some he
  obtain ⟨h', rfl, hset⟩ := nw_some ho1
  simp only [ev.ret, Option.some.injEq] at hq1; subst hq1
  obtain ⟨e1, e2, e3⟩ := hs.alloc hN hset (hf c (Nat.le_refl _) (by simp)) ⟨w.heap.size, 0, 0, 0, 0⟩ rfl (.map #[] 0) (fun β' hb => ⟨#[], heap_alloc_new w _, rfl, rfl, fun j e e' he => by simp at he⟩)
  have e4 := VR.map (β := fun i => if i = c then some ⟨w.heap.size, 0, 0, 0, 0⟩ else β i) (i := c) (I := ⟨w.heap.size, 0, 0, 0, 0⟩) e3
  exact ⟨_, _, _, hr w, e1, e2, e4, Keep.alloc w hN _⟩
theorem evMakeMap_ok [Env] {t : TypeId} {r : Option Value} {xs : List Value} (hx : PW β xs r.toList) : RunS P N β (evMakeMap P t xs) (Instr.makeMap t r) := by
  unfold evMakeMap
  split
  · have := hx.nil_left
    have : r = none := by cases r <;> simp_all
    subst this
    exact newMap_ok (fun w => by simp [Instr.makeMap, newObj, Sem.run])
  · rename_i k n
    obtain ⟨v', r', e, h1, h2⟩ := hx.cons_left
    have : r = some (.int k n) := by
      rw [h1.int_eq] at e
      cases r with
      | none => simp at e
      | some x => simp at e; rw [e.1]
    subst this
    split
    · rename_i k1 k2 hu
      exact newMap_ok (fun w => by simp [Instr.makeMap, Sem.run_bind, run_underlying hu, asInt, asIntOf, newObj, Sem.run])
    · exact RunS.fail
  · exact RunS.fail
def lookRow (P : Program) (kt et : TypeId) (k : Value) (ok : Bool) : Ao → Option Value
  | .map es _ => match findIy P kt k es.isEmpty es with
    | some none => match (P.info? et).bind (·.zero) with
      | some z => match flat z with
        | true => some (cond ok (.tuple #[z, .bool false]) z)
        | false => none
      | none => none
    | some (some j) => match es[j]? with
      | some e => some (cond ok (.tuple #[e.val, .bool true]) e.val)
      | none => none
    | none => none
  | _ => none
def evLookup (P : Program) (t : TypeId) (m k : Value) (ok : Bool) : Comp Value :=
  match m with
  | .map (some i) => match P.underlying t with
    | some (.map kt et) => bind (rd i) fun ao => ofOpt (lookRow P kt et k ok ao)
    | _ => fail
  | .map none => match P.underlying t with
    | some (.map kt et) => ofOpt (lookRow P kt et k ok (.map [] 0))
    | _ => fail
  | _ => fail
theorem VR.pair [Env] {a a' : Value} (h : VR β a a') (b : Bool) : VR β (.tuple #[a, .bool b]) (.tuple #[a', .bool b]) := by
  have := PW.arr (β := β) (c := #[a, .bool b]) (c' := #[a', .bool b]) (PW.cons h (PW.cons (.bool b) (PW.nil β)))
  exact .tuple this.1 this.2
theorem isEmpty_eq {es : List MapEntry} {es' : Array MapEntry} (h : es'.size = es.length) : es'.isEmpty = es.isEmpty := by
  cases es with
  | nil => simp at h; simp [h]
  | cons a l => cases hh : es'.isEmpty with
    | false => rfl
    | true => simp at hh; simp [hh] at h
theorem evLookup_ok [Env] {t : TypeId} {m m' k k' : Value} {ok : Bool} (hm : VR β m m') (hk : VR β k k') : RunS P N β (evLookup P t m k ok) (Instr.lookup t m' k' ok) := by
  cases hm with
  | nilm =>
    simp only [evLookup]
    split
    · rename_i kt et hu
      intro c h o w ho hs hN hf
      obtain ⟨v, hv, rfl⟩ := ofOpt_some ho
      simp only [lookRow] at hv
      split at hv
      · rename_i hfi
        obtain ⟨hck, hfk⟩ := findIy_ok (P := P) (es' := #[]) hk ⟨rfl, fun j e e' he => by simp at he⟩ hfi
        rcases hfk with ⟨_, hfk⟩ | ⟨j, e, e', hj, _⟩
        · split at hv
          · rename_i z hz
            split at hv
            · rename_i hfl
              simp only [Option.some.injEq] at hv; subst hv
              have hvr : VR β (cond ok (.tuple #[z, .bool false]) z) (if ok then .tuple #[z, .bool false] else z) := by
                cases ok
                · exact VR.of_flat 6 z hfl
                · exact (VR.of_flat 6 z hfl).pair false
              refine Does.val hs hvr ?_
              have hck' : ∀ w, (Instr.checkKey (#[] : Array MapEntry).isEmpty 10000 kt k').run P w = .ok () w := hck
              have hfk' : ∀ w, (Instr.findKey kt k' (#[] : Array MapEntry).toList).run P w = .ok none w := hfk
              simp only [Instr.lookup, Sem.run_bind, run_underlying hu, Result.andThen_ok, Sem.run_pure, hck', hfk', run_zero hz]
            · cases hv
          · cases hv
        · cases hj
      · rename_i j hfi
        obtain ⟨_, hfk⟩ := findIy_ok (P := P) (es' := #[]) hk ⟨rfl, fun j e e' he => by simp at he⟩ hfi
        rcases hfk with ⟨hj, _⟩ | ⟨j', e, e', hj, k1, k2, _⟩
        · cases hj
        · simp at k2
      · cases hv
    · exact RunS.fail
  | @map i I hβ =>
    simp only [evLookup]
    split
    · rename_i kt et hu
      refine RunS.rd fun ao c h q w hq hao hs hN hfr => ?_
      obtain ⟨v, hv, rfl⟩ := ofOpt_some hq
      obtain ⟨I', hI, hN', hlt, hob⟩ := hs.obj i ao hao
      rw [hβ] at hI; cases hI
      cases ao with
      | row cs te g => cases hv
      | iter q0 p0 => cases hv
      | mapIt q0 q1 q2 q3 => cases hv
      | map es clk =>
        obtain ⟨es', h1, h2, h3, h4⟩ := hob
        simp only [lookRow] at hv
        split at hv
        · rename_i hfi
          obtain ⟨hck, hfk⟩ := findIy_ok (P := P) hk ⟨h3, h4⟩ hfi
          rcases hfk with ⟨_, hfk⟩ | ⟨j, e, e', hj, _⟩
          · split at hv
            · rename_i z hz
              split at hv
              · rename_i hfl
                simp only [Option.some.injEq] at hv; subst hv
                have hvr : VR β (cond ok (.tuple #[z, .bool false]) z) (if ok then .tuple #[z, .bool false] else z) := by
                  cases ok
                  · exact VR.of_flat 6 z hfl
                  · exact (VR.of_flat 6 z hfl).pair false
                refine Does.val hs hvr ?_
                rw [← isEmpty_eq h3] at hck
                simp only [Instr.lookup, Sem.run_bind, run_underlying hu, Result.andThen_ok, getObj, Sem.run, h1, hck, hfk, run_zero hz]
                cases ok <;> simp [hck, hfk, run_zero hz]
              · cases hv
            · cases hv
          · cases hj
        · rename_i j hfi
          obtain ⟨hck, hfk⟩ := findIy_ok (P := P) hk ⟨h3, h4⟩ hfi
          rcases hfk with ⟨hj, _⟩ | ⟨j', e, e', hj, k1, k2, _, hfk⟩
          · cases hj
          · cases hj
            rw [k1] at hv
            simp only [Option.some.injEq] at hv; subst hv
            have hvv := (h4 j e e' k1 k2).2.1
            have hvr : VR β (cond ok (.tuple #[e.val, .bool true]) e.val) (if ok then .tuple #[e'.val, .bool true] else e'.val) := by
              cases ok
              · exact hvv
              · exact hvv.pair true
            refine Does.val hs hvr ?_
            rw [← isEmpty_eq h3] at hck
            simp only [Instr.lookup, Sem.run_bind, run_underlying hu, Result.andThen_ok, getObj, Sem.run, h1, hck, hfk]
            cases ok <;> simp [hck, hfk]
        · cases hv
    · exact RunS.fail
  | _ => exact RunS.fail
def putRow (P : Program) (kt : TypeId) (k v : Value) : Ao → Option Ao
  | .map es clk => match isOp k && isIntT P kt with
    | true => match findOp k es with
      | some none => some (.map (es ++ [{ key := k, val := v, born := clk }]) (clk + 1))
      | _ => none
    | false => match findIx P kt k false es with
      | some none => some (.map (es ++ [{ key := k, val := v, born := clk }]) (clk + 1))
      | some (some j) => match es[j]? with
        | some e => match Instr.sameBits 10000 e.key k with
          | true => some (.map (es.set j { key := k, val := v, born := e.born }) clk)
          | false => none
        | none => none
      | none => match findKz P kt k es with
        | some none => some (.map (es ++ [{ key := k, val := v, born := clk }]) (clk + 1))
        | _ => none
  | _ => none
def dropRow (P : Program) (kt : TypeId) (k : Value) : Ao → Option Ao
  | .map es clk => match findIy P kt k es.isEmpty es with
    | some none => some (.map es clk)
    | some (some j) => some (.map (es.eraseIdx j) clk)
    | none => none
  | _ => none
def evUpdate (P : Program) (t : TypeId) (m k v : Value) : Comp Value :=
  match m with
  | .map (some i) => match P.underlying t with
    | some (.map kt _) => bind (rd i) fun ao => bind (ofOpt (putRow P kt k v ao)) fun x => bind (wr i (some x)) fun _ => ret undef
    | _ => fail
  | _ => fail
def evDelete (P : Program) (t : TypeId) (m k : Value) : Comp Value :=
  match m with
  | .map (some i) => match P.underlying t with
    | some (.map kt _) => bind (rd i) fun ao => bind (ofOpt (dropRow P kt k ao)) fun x => bind (wr i (some x)) fun _ => ret undef
    | _ => fail
  | .map none => match P.underlying t with
    | some (.map kt _) => match findIy P kt k true [] with
      | some none => ret undef
      | _ => fail
    | _ => fail
  | _ => fail
/-- A map's block is written anew. -/
theorem Sim.remap [Env] {h h' : Tr} {w : World} (hs : Sim P N β h w) {i : Nat} {o : Ao} {I : Im} (hi : Tr.get dep h i = some o) (hro : o.ro = false) (hβ : β i = some I) {es : List MapEntry} {es' : Array MapEntry} {clk : Nat} (hb : I.base = 0) (hm : MW β es es')
    (hset : ∀ j, Tr.get dep h' j = if j = i then some (.map es clk) else Tr.get dep h j) :
    Sim P N β h' { w with heap := w.heap.setIfInBounds I.blk (.map es' clk) } ∧ Keep N w { w with heap := w.heap.setIfInBounds I.blk (.map es' clk) } := by
  obtain ⟨I', hI, hN', hlt, hob⟩ := hs.near hi
  have hN' := hN' hro
  rw [hβ] at hI; cases hI
  refine ⟨hs.upd (by simp) i _ hset (fun _ _ h => h) (fun o' he => ?_) (fun j o' J hj hjo hJ => ?_), ⟨rfl, rfl, rfl, by simp, fun k hk => ?_⟩⟩
  · cases he
    refine ⟨I, hβ, hN', by simpa using hlt, ⟨es', ?_, hb, hm.1, hm.2⟩, fun j o' J hj hjo hJ => hs.far' hjo hi hJ hβ hj hro⟩
    simp [hlt]
  · have := hs.far' hjo hi hJ hβ hj hro
    simp [Array.getElem?_setIfInBounds_ne (Ne.symm this)]
  · have : I.blk ≠ k := by omega
    simp [Array.getElem?_setIfInBounds_ne this]
theorem MW.push [Env] {es : List MapEntry} {es' : Array MapEntry} (h : MW β es es') {k k' v v' : Value} (hk : VR β k k') (hv : VR β v v') (b : Nat) : MW β (es ++ [{ key := k, val := v, born := b }]) (es'.push { key := k', val := v', born := b }) := by
  refine ⟨by simp [h.1], fun j e e' he he' => ?_⟩
  rw [List.getElem?_append] at he
  split at he
  · rename_i hj
    rw [Array.getElem?_push_lt (by rw [h.1]; exact hj)] at he'
    exact h.2 j e e' he (by rw [Array.getElem?_eq_getElem (by rw [h.1]; exact hj)]; exact he')
  · rename_i hj
    have hjl : j = es.length := by
      have := (List.getElem?_eq_some_iff.1 he).1
      simp at this; omega
    subst hjl
    rw [← h.1] at he'
    simp at he he'
    subst he; subst he'
    exact ⟨hk, hv, rfl⟩
theorem MW.set [Env] {es : List MapEntry} {es' : Array MapEntry} (h : MW β es es') {j : Nat} {e e' : MapEntry} (he : es[j]? = some e) (he' : es'[j]? = some e') {k v v' : Value} (hk : flat k = true) (hv : VR β v v') :
    MW β (es.set j { key := k, val := v, born := e.born }) (es'.modify j fun x => { x with key := k, val := v' }) := by
  refine ⟨by simp [h.1], fun i a a' ha ha' => ?_⟩
  rw [List.getElem?_set] at ha
  rw [Array.getElem?_modify] at ha'
  split at ha
  · rename_i e1
    subst e1
    rw [if_pos rfl, he'] at ha'
    split at ha
    · simp at ha ha'
      subst ha; subst ha'
      exact ⟨VR.of_flat 6 k hk, hv, (h.2 j e e' he he').2.2⟩
    · cases ha
  · rename_i e1
    rw [if_neg (fun h => e1 h)] at ha'
    exact h.2 i a a' ha ha'
theorem MW.erase [Env] {es : List MapEntry} {es' : Array MapEntry} (h : MW β es es') (j : Nat) : MW β (es.eraseIdx j) (es'.eraseIdxIfInBounds j) := by
  have e : (es'.eraseIdxIfInBounds j).toList = es'.toList.eraseIdx j := by simp
  have hl : es'.toList.length = es.length := by simpa using h.1
  refine ⟨?_, fun i a a' ha ha' => ?_⟩
  · have : (es'.eraseIdxIfInBounds j).size = (es'.eraseIdxIfInBounds j).toList.length := Array.length_toList.symm
    rw [this, e, List.length_eraseIdx, List.length_eraseIdx, hl]
  · have ha2 : (es'.toList.eraseIdx j)[i]? = some a' := by rw [← e, Array.getElem?_toList]; exact ha'
    rw [List.getElem?_eraseIdx] at ha ha2
    split at ha
    · rename_i hlt
      rw [if_pos hlt] at ha2
      exact h.2 i a a' ha (by simpa using ha2)
    · rename_i hlt
      rw [if_neg hlt] at ha2
      exact h.2 _ a a' ha (by simpa using ha2)
theorem evUpdate_ok [Env] {t : TypeId} {m m' k k' v v' : Value} (hm : VR β m m') (hk : VR β k k') (hv : VR β v v') : RunS P N β (evUpdate P t m k v) (do Instr.mapUpdate t m' k' v'; pure undef) := by
  cases hm with
  | @map i I hβ =>
    simp only [evUpdate]
    split
    · rename_i kt et hu
      refine RunS.rd fun ao c h q w hq hao hs hN hfr => ?_
      obtain ⟨o0, q0, ho0, hq0, rfl⟩ := bind_some hq
      obtain ⟨x, hx, rfl⟩ := ofOpt_some ho0
      obtain ⟨o1, q1, ho1, hq1, rfl⟩ := bind_some hq0
      obtain ⟨h', rfl, hset⟩ := wr_some ho1
      simp only [ev.ret, Option.some.injEq] at hq1; subst hq1
      obtain ⟨I', hI, hN', hlt, hob⟩ := hs.obj i ao hao
      rw [hβ] at hI; cases hI
      cases ao with
      | row cs te g => cases hx
      | iter q0 p0 => cases hx
      | mapIt q0 q1 q2 q3 => cases hx
      | map es clk =>
        obtain ⟨es', h1, h2, h3, h4⟩ := hob
        simp only [putRow] at hx
        split at hx
        · rename_i hop
          split at hx
          · rename_i hfo
            simp only [Option.some.injEq] at hx; subst hx
            have hfi : findIy P kt k false es = some none := by
              unfold findIy
              rw [hop]
              exact hfo
            obtain ⟨hck, hfk⟩ := findIy_ok (P := P) hk ⟨h3, h4⟩ hfi
            rcases hfk with ⟨_, hfk⟩ | ⟨j, e, e', hj, _⟩
            · obtain ⟨e1, e2⟩ := hs.remap hao rfl hβ h2 (MW.push ⟨h3, h4⟩ hk hv clk) hset
              refine ⟨undef, _, β, ?_, Ext.refl _ _ _, e1, VR.undef, e2⟩
              simp only [Instr.mapUpdate, Sem.run_bind, run_underlying hu, Result.andThen_ok, getObj, Sem.run, h1, hck, hfk, setObj, Sem.run_pure]
            · cases hj
          · cases hx
        split at hx
        · rename_i hfi
          obtain ⟨rfl, hkf, hck, hfk⟩ := findIx_ok (P := P) hk ⟨h3, h4⟩ hfi
          rcases hfk with ⟨_, hfk⟩ | ⟨j, e, e', hj, _⟩
          · simp only [Option.some.injEq] at hx; subst hx
            obtain ⟨e1, e2⟩ := hs.remap hao rfl hβ h2 (MW.push ⟨h3, h4⟩ (VR.of_flat 6 _ hkf) hv clk) hset
            refine ⟨undef, _, β, ?_, Ext.refl _ _ _, e1, VR.undef, e2⟩
            simp only [Instr.mapUpdate, Sem.run_bind, run_underlying hu, Result.andThen_ok, getObj, Sem.run, h1, hck, hfk, setObj, Sem.run_pure]
          · cases hj
        · rename_i j hfi
          obtain ⟨rfl, hkf, hck, hfk⟩ := findIx_ok (P := P) hk ⟨h3, h4⟩ hfi
          rcases hfk with ⟨hj, _⟩ | ⟨j', e, e', hj, k1, k2, kf, hfk⟩
          · cases hj
          · cases hj
            rw [k1] at hx
            simp only at hx
            split at hx
            · rename_i hsb
              simp only [Option.some.injEq] at hx; subst hx
              obtain ⟨e1, e2⟩ := hs.remap hao rfl hβ h2 (MW.set ⟨h3, h4⟩ k1 k2 hkf hv) hset
              refine ⟨undef, _, β, ?_, Ext.refl _ _ _, e1, VR.undef, e2⟩
              have hke : e'.key = e.key := ((h4 j e e' k1 k2).1.flat_eq 6 kf).symm
              have hst : ∀ w, (Instr.keyThatStays (((es'[j]?).map (·.key)).getD k') k').run P w = .ok k' w := fun w => by
                rw [k2]
                simp only [Option.map_some, Option.getD_some, hke, Instr.keyThatStays, hsb, if_true, Sem.run_pure]
              simp only [Instr.mapUpdate, Sem.run_bind, run_underlying hu, Result.andThen_ok, getObj, Sem.run, h1, hck, hfk, hst, setObj, Sem.run_pure]
            · cases hx
        · split at hx
          · rename_i hfi
            simp only [Option.some.injEq] at hx; subst hx
            obtain ⟨hck, hfk⟩ := findKz_ok (P := P) (empty := false) hk ⟨h3, h4⟩ hfi
            rcases hfk with ⟨_, hfk⟩ | ⟨j, e, e', hj, _⟩
            · obtain ⟨e1, e2⟩ := hs.remap hao rfl hβ h2 (MW.push ⟨h3, h4⟩ hk hv clk) hset
              refine ⟨undef, _, β, ?_, Ext.refl _ _ _, e1, VR.undef, e2⟩
              simp only [Instr.mapUpdate, Sem.run_bind, run_underlying hu, Result.andThen_ok, getObj, Sem.run, h1, hck, hfk, setObj, Sem.run_pure]
            · cases hj
          · cases hx
    · exact RunS.fail
  | _ => exact RunS.fail
theorem evDelete_ok [Env] {t ty : TypeId} {m m' k k' : Value} (hm : VR β m m') (hk : VR β k k') : RunS P N β (evDelete P t m k) (Builtin.delete_ #[t] ty #[m', k']) := by
  cases hm with
  | @map i I hβ =>
    simp only [evDelete]
    split
    · rename_i kt et hu
      refine RunS.rd fun ao c h q w hq hao hs hN hfr => ?_
      obtain ⟨o0, q0, ho0, hq0, rfl⟩ := bind_some hq
      obtain ⟨x, hx, rfl⟩ := ofOpt_some ho0
      obtain ⟨o1, q1, ho1, hq1, rfl⟩ := bind_some hq0
      obtain ⟨h', rfl, hset⟩ := wr_some ho1
      simp only [ev.ret, Option.some.injEq] at hq1; subst hq1
      obtain ⟨I', hI, hN', hlt, hob⟩ := hs.obj i ao hao
      rw [hβ] at hI; cases hI
      cases ao with
      | row cs te g => cases hx
      | iter q0 p0 => cases hx
      | mapIt q0 q1 q2 q3 => cases hx
      | map es clk =>
        obtain ⟨es', h1, h2, h3, h4⟩ := hob
        simp only [dropRow] at hx
        split at hx
        · rename_i hfi
          obtain ⟨hck, hfk⟩ := findIy_ok (P := P) hk ⟨h3, h4⟩ hfi
          rcases hfk with ⟨_, hfk⟩ | ⟨j, e, e', hj, _⟩
          · simp only [Option.some.injEq] at hx; subst hx
            obtain ⟨e1, e2⟩ := hs.remap hao rfl hβ h2 (⟨h3, h4⟩ : MW β es es') hset
            refine ⟨undef, _, β, ?_, Ext.refl _ _ _, e1, VR.undef, e2⟩
            rw [← isEmpty_eq h3] at hck
            simp [Builtin.delete_, Sem.run_bind, run_underlying hu, getObj, Sem.run, h1, hck, hfk, setObj, undef]
          · cases hj
        · rename_i j hfi
          obtain ⟨hck, hfk⟩ := findIy_ok (P := P) hk ⟨h3, h4⟩ hfi
          rcases hfk with ⟨hj, _⟩ | ⟨j', e, e', hj, k1, k2, kf, hfk⟩
          · cases hj
          · cases hj
            simp only [Option.some.injEq] at hx; subst hx
            obtain ⟨e1, e2⟩ := hs.remap hao rfl hβ h2 (MW.erase (⟨h3, h4⟩ : MW β es es') j) hset
            refine ⟨undef, _, β, ?_, Ext.refl _ _ _, e1, VR.undef, e2⟩
            rw [← isEmpty_eq h3] at hck
            simp [Builtin.delete_, Sem.run_bind, run_underlying hu, getObj, Sem.run, h1, hck, hfk, setObj, undef]
        · cases hx
    · exact RunS.fail
  | nilm =>
    simp only [evDelete]
    split
    · rename_i kt et hu
      split
      · rename_i hfi
        obtain ⟨hck, _⟩ := findIy_ok (P := P) (es := []) (es' := #[]) hk ⟨rfl, fun j e e' he => by simp at he⟩ hfi
        refine RunS.pure VR.undef fun w => ?_
        simp [Builtin.delete_, Sem.run_bind, run_underlying hu, hck, undef]
      · exact RunS.fail
    · exact RunS.fail
  | _ => exact RunS.fail
/-- A new entry of a map, with nothing at it as yet. -/
def entRow (P : Program) (kt et : TypeId) (k : Value) : Ao → Option (Ao × Value)
  | .map es clk => match findIy P kt k false es with
    | some none => match (P.info? et).bind (·.zero) with
      | some z => match flat z with
        | true => some (.map (es ++ [{ key := k, val := z, born := clk }]) (clk + 1), .tuple #[z, .int .i64 clk])
        | false => none
      | none => none
    | _ => none
  | _ => none
def evMapEntry (P : Program) (t : TypeId) (m k : Value) : Comp Value :=
  match m with
  | .map (some i) => match P.underlying t with
    | some (.map kt et) => bind (rd i) fun ao => bind (ofOpt (entRow P kt et k ao)) fun r => bind (wr i (some r.1)) fun _ => ret r.2
    | _ => fail
  | _ => fail
def stRow (b : Int) (v : Value) : Ao → Option Ao
  | .map es clk => match es.findIdx? (fun e => (e.born : Int) == b) with
    | some j => match es[j]? with
      | some e => some (.map (es.set j { key := e.key, val := v, born := e.born }) clk)
      | none => none
    | none => none
  | _ => none
def evEntStore (m s v : Value) : Comp Value :=
  match m, s with
  | .map (some i), .int _ b => bind (rd i) fun ao => bind (ofOpt (stRow b v ao)) fun x => bind (wr i (some x)) fun _ => ret undef
  | _, _ => fail
theorem MW.setVal [Env] {es : List MapEntry} {es' : Array MapEntry} (h : MW β es es') {j : Nat} {e e' : MapEntry} (he : es[j]? = some e) (he' : es'[j]? = some e') {v v' : Value} (hv : VR β v v') :
    MW β (es.set j { key := e.key, val := v, born := e.born }) (es'.modify j fun x => { x with val := v' }) := by
  refine ⟨by simp [h.1], fun i a a' ha ha' => ?_⟩
  rw [List.getElem?_set] at ha
  rw [Array.getElem?_modify] at ha'
  split at ha
  · rename_i e1
    subst e1
    rw [if_pos rfl, he'] at ha'
    split at ha
    · simp at ha ha'
      subst ha; subst ha'
      exact ⟨(h.2 j e e' he he').1, hv, (h.2 j e e' he he').2.2⟩
    · cases ha
  · rename_i e1
    rw [if_neg (fun h => e1 h)] at ha'
    exact h.2 i a a' ha ha'
theorem findIdx_born (b : Int) : ∀ (es l : List MapEntry), l.length = es.length → (∀ (j : Nat) (e e' : MapEntry), es[j]? = some e → l[j]? = some e' → e'.born = e.born) → l.findIdx? (fun e => (e.born : Int) == b) = es.findIdx? (fun e => (e.born : Int) == b)
  | [], [], _, _ => rfl
  | [], a :: l, h, _ => by simp at h
  | a :: es, [], h, _ => by simp at h
  | a :: es, a' :: l, h, hh => by
    have e1 : a'.born = a.born := hh 0 a a' rfl rfl
    have := findIdx_born b es l (by simpa using h) (fun j e e' he he' => hh (j + 1) e e' (by simpa using he) (by simpa using he'))
    simp only [List.findIdx?_cons, e1, this]
theorem MW.findIdx [Env] {es : List MapEntry} {es' : Array MapEntry} (h : MW β es es') (b : Int) : es'.findIdx? (fun e => (e.born : Int) == b) = es.findIdx? (fun e => (e.born : Int) == b) := by
  obtain ⟨l⟩ := es'
  rw [List.findIdx?_toArray]
  exact findIdx_born b _ _ (by simpa using h.1) (fun j e e' he he' => (h.2 j e e' he (by simpa using he')).2.2)
theorem evMapEntry_ok [Env] {t : TypeId} {m m' k k' : Value} (hm : VR β m m') (hk : VR β k k') : RunS P N β (evMapEntry P t m k) (Instr.mapEntry t m' k') := by
  cases hm with
  | @map i I hβ =>
    simp only [evMapEntry]
    split
    · rename_i kt et hu
      refine RunS.rd fun ao c h q w hq hao hs hN hfr => ?_
      obtain ⟨o0, q0, ho0, hq0, rfl⟩ := bind_some hq
      obtain ⟨x, hx, rfl⟩ := ofOpt_some ho0
      obtain ⟨o1, q1, ho1, hq1, rfl⟩ := bind_some hq0
      obtain ⟨h', rfl, hset⟩ := wr_some ho1
      simp only [ev.ret, Option.some.injEq] at hq1; subst hq1
      obtain ⟨I', hI, hN', hlt, hob⟩ := hs.obj i ao hao
      rw [hβ] at hI; cases hI
      cases ao with
      | row cs te g => cases hx
      | iter q0 p0 => cases hx
      | mapIt q0 q1 q2 q3 => cases hx
      | map es clk =>
        obtain ⟨es', h1, h2, h3, h4⟩ := hob
        simp only [entRow] at hx
        split at hx
        rotate_left
        · cases hx
        rename_i hfi
        obtain ⟨hck, hfk⟩ := findIy_ok (P := P) hk ⟨h3, h4⟩ hfi
        rcases hfk with ⟨_, hfk⟩ | ⟨j, e, e', hj, _⟩
        · split at hx
          rotate_left
          · cases hx
          rename_i z hz
          split at hx
          rotate_left
          · cases hx
          rename_i hzf
          simp only [Option.some.injEq] at hx; subst hx
          obtain ⟨e1, e2⟩ := hs.remap hao rfl hβ h2 (MW.push ⟨h3, h4⟩ hk (VR.of_flat 6 z hzf) clk) hset
          refine ⟨.tuple #[z, .int .i64 clk], _, β, ?_, Ext.refl _ _ _, e1, ?_, e2⟩
          · have hzr := fun w => run_zero (P := P) hz w
            simp only [Instr.mapEntry, Sem.run_bind, run_underlying hu, Result.andThen_ok, getObj, Sem.run, h1, hck, hfk, setObj, Sem.run_pure, hzr, goInt]
          · have t := PW.arr (β := β) (c := #[z, .int .i64 (clk : Int)]) (c' := #[z, .int .i64 (clk : Int)]) (PW.cons (VR.of_flat 6 z hzf) (PW.cons (.int .i64 _) (PW.nil β)))
            exact .tuple t.1 t.2
        · cases hj
    · exact RunS.fail
  | _ => exact RunS.fail
theorem evEntStore_ok [Env] {t : TypeId} {m m' s s' v v' : Value} (hm : VR β m m') (hst : VR β s s') (hv : VR β v v') : RunS P N β (evEntStore m s v) (do Instr.entryStore t m' s' v'; pure undef) := by
  unfold evEntStore
  split
  · rename_i i k b
    rw [hst.int_eq]
    cases hm with
    | @map _ I hβ =>
      refine RunS.rd fun ao c h q w hq hao hs hN hfr => ?_
      obtain ⟨o0, q0, ho0, hq0, rfl⟩ := bind_some hq
      obtain ⟨x, hx, rfl⟩ := ofOpt_some ho0
      obtain ⟨o1, q1, ho1, hq1, rfl⟩ := bind_some hq0
      obtain ⟨h', rfl, hset⟩ := wr_some ho1
      simp only [ev.ret, Option.some.injEq] at hq1; subst hq1
      obtain ⟨I', hI, hN', hlt, hob⟩ := hs.obj i ao hao
      rw [hβ] at hI; cases hI
      cases ao with
      | row cs te g => cases hx
      | iter q0 p0 => cases hx
      | mapIt q0 q1 q2 q3 => cases hx
      | map es clk =>
        obtain ⟨es', h1, h2, h3, h4⟩ := hob
        simp only [stRow] at hx
        split at hx
        rotate_left
        · cases hx
        rename_i j hj
        split at hx
        rotate_left
        · cases hx
        rename_i e he
        simp only [Option.some.injEq] at hx; subst hx
        have hlt' : j < es'.size := by rw [h3]; exact (List.getElem?_eq_some_iff.1 he).1
        have he' : es'[j]? = some es'[j] := Array.getElem?_eq_getElem hlt'
        obtain ⟨e1, e2⟩ := hs.remap hao rfl hβ h2 (MW.setVal ⟨h3, h4⟩ he he' hv) hset
        refine ⟨undef, _, β, ?_, Ext.refl _ _ _, e1, VR.undef, e2⟩
        have hfi := MW.findIdx (⟨h3, h4⟩ : MW β es es') b
        rw [hj] at hfi
        simp only [Instr.entryStore, Sem.run_bind, Result.andThen_ok, getObj, Sem.run, h1, asInt, asIntOf, hfi, setObj, Sem.run_pure]
  · exact RunS.fail
end Go.Proofs.Ytdpmjghdmpaehaa.ev
