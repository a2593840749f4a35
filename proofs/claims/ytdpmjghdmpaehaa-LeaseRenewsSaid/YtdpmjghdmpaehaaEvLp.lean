/-
  Loops: states of the small memory for every number, and pieces of code from one such state to another. Conditions: none.
-/
import Derived.Test.YtdpmjghdmpaehaaEvY
namespace Go.Proofs.Ytdpmjghdmpaehaa.ev
set_option linter.unusedVariables false
set_option linter.unusedSimpArgs false
/-- A state: slots, the next free number, objects. -/
structure Lit where
  l : List Value
  c : Nat
  o : List (Nat × Option Ao)
def heapOf (s : Lit) : Tr := (putAll s.o .lf).getD .lf
def Stands (N : Nat) (E : List Value) (s : Lit) (ar : Act) (w : World) : Prop :=
  ∃ β, @Sim (env E) Try.prog N β (heapOf s) w ∧ @PW (env E) β s.l ar.tmps.toList ∧ ar.defers = [] ∧ ∀ i, s.c ≤ i → β i = none
/-! ### One state seen as another -/
def look : List (Nat × Nat) → Nat → Option Nat
  | [], _ => none
  | p :: l, i => match Nat.beq p.1 i with
    | true => some p.2
    | false => look l i
theorem look_mem : ∀ {l : List (Nat × Nat)} {i j : Nat}, look l i = some j → (i, j) ∈ l
  | [], i, j, h => by cases h
  | p :: l, i, j, h => by
    simp only [look] at h
    split at h
    · rename_i hb
      cases h
      rw [← Nat.of_beq hb]
      exact List.mem_cons_self ..
    · exact List.mem_cons_of_mem _ (look_mem h)
def eqIn (u v : Value) : List (Value × Value) → Bool
  | [] => false
  | p :: l => match eqV 6 u p.1 && eqV 6 v p.2 with
    | true => true
    | false => eqIn u v l
theorem eqIn_ok {u v : Value} : ∀ {l : List (Value × Value)}, eqIn u v l = true → (u, v) ∈ l
  | [], h => by cases h
  | p :: l, h => by
    simp only [eqIn] at h
    split at h
    · rename_i hb
      simp only [Bool.and_eq_true] at hb
      rw [eqV_eq 6 _ _ hb.1, eqV_eq 6 _ _ hb.2]
      exact List.mem_cons_self ..
    · exact List.mem_cons_of_mem _ (eqIn_ok h)
def atJ (π : List (Nat × Nat)) (i j : Nat) : Bool := match look π i with
  | some k => Nat.beq k j
  | none => false
theorem atJ_ok {π : List (Nat × Nat)} {i j : Nat} (h : atJ π i j = true) : look π i = some j := by
  unfold atJ at h
  split at h
  · rename_i k hk; rw [hk, Nat.of_beq h]
  · cases h
/-- The new value (first) stands for what the old one stands for. -/
def renV (eqs : List (Value × Value)) (π : List (Nat × Nat)) : Nat → Value → Value → Bool
  | 0, _, _ => false
  | n + 1, v, u => match eqIn u v eqs with
    | true => true
    | false => match v with
      | .pointer (some ⟨i, o, none⟩) => match u with
        | .pointer (some ⟨j, k, none⟩) => Nat.beq o k && atJ π i j
        | _ => false
      | .slice (some ⟨i, o, none⟩) l c => match u with
        | .slice (some ⟨j, k, none⟩) m d => (Nat.beq o k && atJ π i j) && (Nat.beq l m && Nat.beq c d)
        | _ => false
      | .map (some i) => match u with
        | .map (some j) => atJ π i j
        | _ => false
      | .agg a => match u with
        | .agg b => eqL (renV eqs π n) a.toList b.toList
        | _ => false
      | .tuple a => match u with
        | .tuple b => eqL (renV eqs π n) a.toList b.toList
        | _ => false
      | .func f a c => match u with
        | .func g b d => eqFn f g && (eqL (renV eqs π n) a.toList b.toList && eqL (renV eqs π n) c.toList d.toList)
        | _ => false
      | v => flat v && eqV 8 v u
def EqOK (E1 E2 : List Value) (p : Value × Value) : Prop := ∃ k n, @real (env E1) p.1 = .int k n ∧ @real (env E2) p.2 = .int k n
theorem vr_real [Env] {β : Mp} {q : Value} {k : IntKind} {n : Int} (h : real q = .int k n) : VR β q (.int k n) := by
  cases q with
  | chan r =>
    cases r with
    | none => cases h
    | some j =>
      have h : Env.E j = .int k n := h
      have := VR.opq (β := β) j (by rw [h]; rfl) (by rw [h]; intro b hb; cases hb)
      rwa [h] at this
  | int l m => rw [show Value.int l m = .int k n from h]; exact .int k n
  | _ => cases h
def tr (π : List (Nat × Nat)) (β : Mp) : Mp := fun i => (look π i).bind β
theorem tr_of {π : List (Nat × Nat)} {β : Mp} {i j : Nat} {I : Im} (h : atJ π i j = true) (hb : β j = some I) : tr π β i = some I := by
  unfold tr
  rw [atJ_ok h]; exact hb
theorem eqL_pw {E1 E2 : List Value} {β β2 : Mp} {f : Value → Value → Bool} (hf : ∀ v u v0, f v u = true → @VR (env E1) β u v0 → @VR (env E2) β2 v v0) : ∀ (vs us v0s : List Value), eqL f vs us = true → @PW (env E1) β us v0s → @PW (env E2) β2 vs v0s
  | [], [], v0s, _, h => by
    letI : Env := env E1
    rw [h.nil_left]; exact @PW.nil (env E2) β2
  | [], u :: us, _, h, _ => by cases h
  | v :: vs, [], _, h, _ => by cases h
  | v :: vs, u :: us, v0s, h, hp => by
    simp only [eqL] at h
    split at h
    · rename_i hb
      obtain ⟨a', r', rfl, h1, h2⟩ := @PW.cons_left (env E1) _ _ _ _ hp
      exact @PW.cons (env E2) _ _ _ _ _ (hf _ _ _ hb h1) (eqL_pw hf vs us r' h h2)
    · cases h
theorem renV_ok {E1 E2 : List Value} {eqs : List (Value × Value)} {π : List (Nat × Nat)} (heqs : ∀ p ∈ eqs, EqOK E1 E2 p) {β : Mp} : ∀ (n : Nat) (v u v0 : Value), renV eqs π n v u = true → @VR (env E1) β u v0 → @VR (env E2) (tr π β) v v0
  | 0, _, _, _, h, _ => by cases h
  | n + 1, v, u, v0, h, hv => by
    have ih := renV_ok heqs (β := β) (π := π) n
    unfold renV at h
    split at h
    · rename_i hb
      obtain ⟨k, m, e1, e2⟩ := heqs _ (eqIn_ok hb)
      have : v0 = .int k m := by rw [@real_of (env E1) β u v0 hv ⟨k, m, e1⟩]; exact e1
      rw [this]
      exact @vr_real (env E2) _ _ _ _ e2
    · split at h
      · split at h
        · simp only [Bool.and_eq_true] at h
          obtain ⟨h1, h2⟩ := h
          have h1 := Nat.of_beq h1
          subst h1
          cases hv with
          | ptr _ hI => exact @VR.ptr (env E2) _ _ _ _ (tr_of h2 hI)
        · cases h
      · split at h
        · simp only [Bool.and_eq_true] at h
          obtain ⟨⟨h1, h2⟩, h3, h4⟩ := h
          have h1 := Nat.of_beq h1
          have h3 := Nat.of_beq h3
          have h4 := Nat.of_beq h4
          subst h1; subst h3; subst h4
          cases hv with
          | sl _ _ _ c' hI g1 g2 g3 g4 => exact @VR.sl (env E2) _ _ _ _ _ _ _ _ (tr_of h2 hI) g1 g2 g3 g4
        · cases h
      · split at h
        · cases hv with
          | map hI => exact @VR.map (env E2) _ _ _ (tr_of h hI)
        · cases h
      · split at h
        · cases hv with
          | agg g1 g2 =>
            have := eqL_pw (E1 := E1) (E2 := E2) (β := β) (β2 := tr π β) ih _ _ _ h (@PW.of_arr (env E1) β _ _ g1 g2)
            have t := @PW.arr (env E2) _ _ _ this
            exact @VR.agg (env E2) _ _ _ t.1 t.2
        · cases h
      · split at h
        · cases hv with
          | tuple g1 g2 =>
            have := eqL_pw (E1 := E1) (E2 := E2) (β := β) (β2 := tr π β) ih _ _ _ h (@PW.of_arr (env E1) β _ _ g1 g2)
            have t := @PW.arr (env E2) _ _ _ this
            exact @VR.tuple (env E2) _ _ _ t.1 t.2
        · cases h
      · split at h
        · simp only [Bool.and_eq_true] at h
          obtain ⟨h1, h2, h3⟩ := h
          have h1 := eqFn_eq h1
          subst h1
          cases hv with
          | func _ g1 g2 g3 g4 =>
            have p1 := eqL_pw (E1 := E1) (E2 := E2) (β := β) (β2 := tr π β) ih _ _ _ h2 (@PW.of_arr (env E1) β _ _ g1 g2)
            have p2 := eqL_pw (E1 := E1) (E2 := E2) (β := β) (β2 := tr π β) ih _ _ _ h3 (@PW.of_arr (env E1) β _ _ g3 g4)
            have t1 := @PW.arr (env E2) _ _ _ p1
            have t2 := @PW.arr (env E2) _ _ _ p2
            exact @VR.func (env E2) _ _ _ _ _ _ t1.1 t1.2 t2.1 t2.2
        · cases h
      · simp only [Bool.and_eq_true] at h
        have e := eqV_eq 8 _ _ h.2
        subst e
        have := @VR.flat_eq (env E1) β _ _ hv 6 h.1
        rw [← this]
        exact @VR.of_flat (env E2) _ 6 _ h.1
def renC (eqs : List (Value × Value)) (π : List (Nat × Nat)) : Cs → Cs → Bool
  | .leaf xs, .leaf ys => eqL (renV eqs π 8) xs ys
  | .rep n v, .rep m u => Nat.beq n m && renV eqs π 8 v u
  | .cat n a b, .cat m c d => Nat.beq n m && (renC eqs π a c && renC eqs π b d)
  | _, _ => false
theorem eqL_len {f : Value → Value → Bool} : ∀ (l m : List Value), eqL f l m = true → l.length = m.length
  | [], [], _ => rfl
  | [], b :: m, h => by cases h
  | a :: l, [], h => by cases h
  | a :: l, b :: m, h => by
    simp only [eqL] at h
    split at h
    · simp [eqL_len l m h]
    · cases h
theorem renC_ok {E1 E2 : List Value} {eqs : List (Value × Value)} {π : List (Nat × Nat)} (heqs : ∀ p ∈ eqs, EqOK E1 E2 p) {β : Mp} : ∀ (C D : Cs), renC eqs π C D = true → D.ok → C.ok ∧ C.list.length = D.list.length ∧ ∀ vs, @PW (env E1) β D.list vs → @PW (env E2) (tr π β) C.list vs
  | .leaf xs, .leaf ys, h, _ => ⟨trivial, eqL_len _ _ h, fun vs hp => eqL_pw (renV_ok heqs 8) _ _ _ h hp⟩
  | .leaf xs, .rep n v, h, _ => by cases h
  | .leaf xs, .cat n c d, h, _ => by cases h
  | .rep n v, .leaf ys, h, _ => by cases h
  | .rep n v, .rep m u, h, _ => by
    simp only [renC, Bool.and_eq_true] at h
    obtain ⟨h1, h2⟩ := h
    have h1 := Nat.of_beq h1
    subst h1
    refine ⟨trivial, by simp [Cs.list], fun vs hp => ⟨?_, fun j a a' ha ha' => ?_⟩⟩
    · have := hp.1; simpa [Cs.list] using this
    · simp only [Cs.list, List.getElem?_replicate] at ha
      split at ha
      · rename_i hj
        cases ha
        exact renV_ok heqs 8 _ _ _ h2 (hp.2 j u a' (by simp [Cs.list, List.getElem?_replicate, hj]) ha')
      · cases ha
  | .rep n v, .cat m c d, h, _ => by cases h
  | .cat n a b, .leaf ys, h, _ => by cases h
  | .cat n a b, .rep m u, h, _ => by cases h
  | .cat n a b, .cat m c d, h, hk => by
    simp only [renC, Bool.and_eq_true] at h
    obtain ⟨h1, h2, h3⟩ := h
    have h1 := Nat.of_beq h1
    subst h1
    obtain ⟨k1, k2, k3⟩ := hk
    obtain ⟨a1, a2, a3⟩ := renC_ok heqs (β := β) a c h2 k2
    obtain ⟨b1, b2, b3⟩ := renC_ok heqs (β := β) b d h3 k3
    refine ⟨⟨by rw [k1, a2], a1, b1⟩, by simp [Cs.list, a2, b2], fun vs hp => ?_⟩
    have hl : c.list.length ≤ vs.length := by have := hp.1; simp [Cs.list] at this; omega
    have p1 := @PW.take (env E1) _ _ _ hp c.list.length
    have p2 := @PW.drop (env E1) _ _ _ hp c.list.length
    simp only [Cs.list, List.take_left', List.drop_left'] at p1 p2
    have q := @PW.append (env E2) _ _ _ _ _ (a3 _ p1) (b3 _ p2)
    rwa [List.take_append_drop] at q
def renE (eqs : List (Value × Value)) (π : List (Nat × Nat)) : List MapEntry → List MapEntry → Bool
  | [], [] => true
  | a :: l, b :: m => match renV eqs π 8 a.key b.key && (renV eqs π 8 a.val b.val && Nat.beq a.born b.born) with
    | true => renE eqs π l m
    | false => false
  | _, _ => false
theorem renE_ok {E1 E2 : List Value} {eqs : List (Value × Value)} {π : List (Nat × Nat)} (heqs : ∀ p ∈ eqs, EqOK E1 E2 p) {β : Mp} : ∀ (l m : List MapEntry), renE eqs π l m = true → l.length = m.length ∧ ∀ (j : Nat) (a b : MapEntry), l[j]? = some a → m[j]? = some b → renV eqs π 8 a.key b.key = true ∧ renV eqs π 8 a.val b.val = true ∧ a.born = b.born
  | [], [], _ => ⟨rfl, fun j a b h => by simp at h⟩
  | [], b :: m, h => by cases h
  | a :: l, [], h => by cases h
  | a :: l, b :: m, h => by
    simp only [renE] at h
    split at h
    · rename_i hb
      simp only [Bool.and_eq_true] at hb
      obtain ⟨k1, k2⟩ := renE_ok heqs (β := β) l m h
      refine ⟨by simp [k1], fun j x y hx hy => ?_⟩
      cases j with
      | zero => cases hx; cases hy; exact ⟨hb.1, hb.2.1, Nat.of_beq hb.2.2⟩
      | succ j => exact k2 j x y (by simpa using hx) (by simpa using hy)
    · cases h
def renO (eqs : List (Value × Value)) (π : List (Nat × Nat)) : Ao → Ao → Bool
  | .row C t g, .row D u k => eqG g k && (Nat.beq t u && renC eqs π C D)
  | .map es n, .map fs m => Nat.beq n m && renE eqs π es fs
  | _, _ => false
theorem renO_ok {E1 E2 : List Value} {eqs : List (Value × Value)} {π : List (Nat × Nat)} (heqs : ∀ p ∈ eqs, EqOK E1 E2 p) {β : Mp} {w : World} {I : Im} {a b : Ao} (h : renO eqs π a b = true) (ho : @ObR (env E1) Try.prog β w I b) : @ObR (env E2) Try.prog (tr π β) w I a := by
  cases a <;> cases b <;> simp only [renO, Bool.and_eq_true] at h <;> first
    | (cases h; done)
    | skip
  · obtain ⟨h1, h2, h3⟩ := h
    have h1 := eqG_eq h1
    have h2 := Nat.of_beq h2
    subst h1; subst h2
    obtain ⟨hok, vs, hpw, hlen, hra, hth, hg0, hg1⟩ := ho
    obtain ⟨k1, k2, k3⟩ := renC_ok heqs (β := β) _ _ h3 hok
    exact ⟨k1, vs, k3 vs hpw, k2.trans hlen, hra, hth, hg0, hg1⟩
  · obtain ⟨h1, h2⟩ := h
    have h1 := Nat.of_beq h1
    subst h1
    obtain ⟨es', g1, g2, g3, g4⟩ := ho
    obtain ⟨k1, k2⟩ := renE_ok heqs (β := β) _ _ h2
    refine ⟨es', g1, g2, g3.trans k1.symm, fun j e e' he he' => ?_⟩
    have hjl : j < es'.size := (Array.getElem?_eq_some_iff.1 he').1
    rw [g3] at hjl
    have hb := List.getElem?_eq_getElem hjl
    obtain ⟨r1, r2, r3⟩ := k2 j e _ he hb
    obtain ⟨s1, s2, s3⟩ := g4 j _ e' hb he'
    exact ⟨renV_ok heqs 8 _ _ _ r1 s1, renV_ok heqs 8 _ _ _ r2 s2, s3.trans r3.symm⟩
def eqX : Exit → Exit → Bool
  | .normal, .normal => true
  | .ret, .ret => true
  | .exit a, .exit b => Nat.beq a b
  | _, _ => false
theorem eqX_eq {a b : Exit} (h : eqX a b = true) : a = b := by
  cases a <;> cases b <;> simp only [eqX] at h <;> first
    | rfl
    | (rw [Nat.of_beq h]; done)
    | (cases h; done)
def renSlots (eqs : List (Value × Value)) (π : List (Nat × Nat)) (t : Vt) : List Value → Nat → Bool
  | [], _ => true
  | v :: l, i => match renV eqs π 8 v (t.get i) with
    | true => renSlots eqs π t l (i + 1)
    | false => false
theorem renSlots_ok {eqs : List (Value × Value)} {π : List (Nat × Nat)} {t : Vt} : ∀ (l : List Value) (i : Nat), renSlots eqs π t l i = true → ∀ (j : Nat) (v : Value), l[j]? = some v → renV eqs π 8 v (t.get (i + j)) = true
  | [], i, _, j, v, hv => by simp at hv
  | a :: l, i, h, j, v, hv => by
    simp only [renSlots] at h
    split at h
    · rename_i hb
      cases j with
      | zero => cases hv; exact hb
      | succ j =>
        have := renSlots_ok l (i + 1) h j v (by simpa using hv)
        rwa [show i + 1 + j = i + (j + 1) from by omega] at this
    · cases h
def renHeap (eqs : List (Value × Value)) (π : List (Nat × Nat)) (h : Tr) : List (Nat × Option Ao) → Bool
  | [] => true
  | p :: l => match p.2 with
    | some a => match look π p.1 with
      | some j => match Tr.get dep h j with
        | some b => match renO eqs π a b with
          | true => renHeap eqs π h l
          | false => false
        | none => false
      | none => false
    | none => false
theorem renHeap_ok {eqs : List (Value × Value)} {π : List (Nat × Nat)} {h : Tr} : ∀ {l : List (Nat × Option Ao)}, renHeap eqs π h l = true → ∀ p ∈ l, ∃ a j b, p.2 = some a ∧ look π p.1 = some j ∧ Tr.get dep h j = some b ∧ renO eqs π a b = true
  | [], _, p, hp => by cases hp
  | q :: l, hh, p, hp => by
    simp only [renHeap] at hh
    split at hh
    · rename_i a ha
      split at hh
      · rename_i j hj
        split at hh
        · rename_i b hb
          split at hh
          · rename_i hr
            rcases List.mem_cons.1 hp with rfl | hp
            · exact ⟨a, j, b, ha, hj, hb, hr⟩
            · exact renHeap_ok hh p hp
          · cases hh
        · cases hh
      · cases hh
    · cases hh
/-- From one state, by a piece of code, to another. -/
def chkTo (P : Program) (tab : TabF) (sp : SpF) (f : Nat) (code : Code) (s1 : Lit) (eqs : List (Value × Value)) (π : List (Nat × Nat)) (e : Exit) (s2 : Lit) : Bool :=
  (fall (fun p => Nat.blt p.1 s2.c) π && fall (fun p => fall (fun q => !(Nat.beq p.2 q.2) || Nat.beq p.1 q.1) π) π) &&
  (match Sl.init s1.l s1.l.length with
  | some sl => match fxCode P tab sp f code sl s1.c (heapOf s1) with
    | some ⟨(x, t), _, h', _, _⟩ => eqX x e && (Nat.beq t.n s2.l.length && (renSlots eqs π t.t s2.l 0 && renHeap eqs π h' s2.o))
    | none => false
  | none => false)
/-- What a run of a piece of code says, in the terms of the state that it leads to. -/
theorem to_stands {E1 E2 : List Value} {s1 s2 : Lit} {eqs : List (Value × Value)} {π : List (Nat × Nat)} {tab : TabF} {sp : SpF} {f : Nat} {code : Code} {e : Exit} (heqs : ∀ p ∈ eqs, EqOK E1 E2 p)
    (hc : chkTo Try.prog tab sp f code s1 eqs π e s2 = true) : ∃ o : Out (Exit × Act), evCode Try.prog tab sp f code ⟨(s1.l ++ List.replicate (s1.l.length - s1.l.length) undef).toArray, []⟩ s1.c (heapOf s1) = some o ∧ o.a.1 = e ∧
      ∀ (N : Nat) (ar' : Act) (w' : World) (β' : Mp), @Sim (env E1) Try.prog N β' o.h w' → @AR (env E1) β' o.a.2 ar' → Stands N E2 s2 ar' w' := by
  unfold chkTo at hc
  simp only [Bool.and_eq_true, fall_eq, List.all_eq_true] at hc
  obtain ⟨⟨c1, c2⟩, hc⟩ := hc
  split at hc
  rotate_left
  · cases hc
  rename_i sl hsl
  split at hc
  rotate_left
  · cases hc
  rename_i x t cc h' r m hrun
  simp only [Bool.and_eq_true] at hc
  obtain ⟨d1, d2, d3, d4⟩ := hc
  have d1 := eqX_eq d1
  have d2 := Nat.of_beq d2
  subst d1
  have hsr := Sl.init_ok hsl
  obtain ⟨a', hev, hsr'⟩ := fxCode_ok (P := Try.prog) (tab := tab) (sp := sp) f code sl _ s1.c (heapOf s1) _ hsr hrun
  refine ⟨_, hev, rfl, fun N ar' w' β' e2 e3 => ?_⟩
  letI : Env := env E1
  refine ⟨tr π β', ?_, ?_, e3.d2, fun i hi => ?_⟩
  · have hmem : ∀ i a, Tr.get dep (heapOf s2) i = some a → ∃ j b, look π i = some j ∧ Tr.get dep h' j = some b ∧ renO eqs π a b = true := by
      intro i a hia
      unfold heapOf at hia
      cases hp : putAll s2.o .lf with
      | none => rw [hp] at hia; simp [Tr.get_lf] at hia
      | some g =>
        rw [hp] at hia
        simp only [Option.getD_some] at hia
        rw [get_putAll _ _ _ hp i] at hia
        cases hl : lastOf s2.o i with
        | none => rw [hl] at hia; simp [Tr.get_lf] at hia
        | some y =>
          rw [hl] at hia
          simp only [Option.getD_some] at hia
          subst hia
          obtain ⟨a2, j, b, q1, q2, q3, q4⟩ := renHeap_ok d4 _ (lastOf_mem _ _ _ hl)
          cases q1
          exact ⟨j, b, q2, q3, q4⟩
    refine @Sim.mk (env E2) _ _ _ _ _ (fun i a hia => ?_) (fun i i' a a' I J hia hia' hI hJ hne => ?_)
    · obtain ⟨j, b, q1, q2, q3⟩ := hmem i a hia
      obtain ⟨I, p1, p2, p3, p4⟩ := e2.obj j b q2
      exact ⟨I, by unfold tr; rw [q1]; exact p1, p2, p3, renO_ok heqs q3 p4⟩
    · obtain ⟨j, b, q1, q2, q3⟩ := hmem i a hia
      obtain ⟨j', b', q1', q2', q3'⟩ := hmem i' a' hia'
      unfold tr at hI hJ
      rw [q1] at hI; rw [q1'] at hJ
      refine e2.inj j j' b b' I J q2 q2' hI hJ fun hjj => hne ?_
      have := c2 _ (look_mem q1) _ (look_mem q1')
      simp only [Bool.or_eq_true, Bool.not_eq_true'] at this
      rcases this with h | h
      · subst hjj; rw [Nat.beq_refl] at h; cases h
      · exact Nat.of_beq h
  · have hsz : a'.tmps.size = t.n := hsr'.size
    have hlen : s2.l.length = ar'.tmps.toList.length := by rw [← e3.t.1, ← d2, ← hsz]; simp
    refine ⟨hlen, fun j v v' hv hv' => ?_⟩
    have h1 := renSlots_ok _ _ d3 j v hv
    rw [Nat.zero_add, hsr'.get j] at h1
    have hj : j < a'.tmps.size := by rw [hsz, d2]; exact (List.getElem?_eq_some_iff.1 hv).1
    refine renV_ok heqs 8 _ _ _ h1 (e3.t.2 j _ v' ?_ hv')
    simp [Array.getD, hj]
  · unfold tr
    cases hl : look π i with
    | none => rfl
    | some j =>
      exfalso
      have := blt_true (c1 _ (look_mem hl))
      simp only at this
      omega
theorem step_ok {E1 E2 : List Value} {s1 s2 : Lit} {eqs : List (Value × Value)} {π : List (Nat × Nat)} {tab : TabF} {sp : SpF} {f : Nat} {code : Code} {e : Exit} (hsp : @SpOK (env E1) Try.prog sp) (htab : @TabOK (env E1) Try.prog tab) (heqs : ∀ p ∈ eqs, EqOK E1 E2 p)
    (hc : chkTo Try.prog tab sp f code s1 eqs π e s2 = true) {N : Nat} {ar : Act} {w : World} (hs : Stands N E1 s1 ar w) (hN : N ≤ w.heap.size) {Q : Exit → Act → World → Prop} (hQ : ∀ ar' w', Stands N E2 s2 ar' w' → Keep N w w' → Q e ar' w') : code.wp Try.prog Q ar w := by
  obtain ⟨o, hev, rfl, hst⟩ := to_stands heqs hc
  obtain ⟨β, k1, k2, k3, k4⟩ := hs
  letI : Env := env E1
  have har : AR β ⟨(s1.l ++ List.replicate (s1.l.length - s1.l.length) undef).toArray, []⟩ ar := ⟨by simpa using k2, rfl, k3⟩
  exact (evCode_ok (P := Try.prog) (N := N) hsp htab mixed noCount' f).run _ _ _ _ _ _ w β hev k1 hN (fun i h1 _ => k4 i h1) har Q fun ar' w' β' e1 e2 e3 e4 => hQ ar' w' (hst N ar' w' β' e2 e3) e4
/-- Pieces of code behind one another, and the rest. -/
def chain : List Code → Code → Code
  | [], r => r
  | c :: l, r => .seq c (chain l r)
theorem chain_run [Env] {P : Program} {N : Nat} {tab : TabF} {sp : SpF} (IH : ∀ f, CodeOK P N (evCode P tab sp f)) : ∀ (cs : List Code) (f : Nat) (a ar : Act) (c : Nat) (h : Tr) (o : Out (Exit × Act)) (w : World) (β : Mp), evCode P tab sp f (chain cs .skip) a c h = some o → o.a.1 = .normal → Sim P N β h w → N ≤ w.heap.size → (∀ i, c ≤ i → i < o.c → β i = none) → AR β a ar →
    ∀ (Q : Exit → Act → World → Prop) (rest : Code), (∀ ar' w' β', Ext c o.c β β' → Sim P N β' o.h w' → AR β' o.a.2 ar' → Keep N w w' → rest.wp P Q ar' w') → (chain cs rest).wp P Q ar w
  | cs, 0, a, ar, c, h, o, w, β, he, _, _, _, _, _, _, _, _ => by cases he
  | [], f + 1, a, ar, c, h, o, w, β, he, hn, hs, hN, hf, ha, Q, rest, hQ => by
    simp only [chain, evCode, ret, Option.some.injEq] at he; subst he
    exact hQ ar w β (Ext.refl _ _ _) hs ha (Keep.refl _ _)
  | x :: l, f + 1, a, ar, c, h, o, w, β, he, hn, hs, hN, hf, ha, Q, rest, hQ => by
    simp only [chain, evCode] at he
    obtain ⟨o1, q1, ho1, hq1, rfl⟩ := bind_some he
    have c1 := ((IH f).loc _ _ _ _ _ ho1).1
    refine wp_seq ?_
    rcases br_some hq1 with ⟨hn1, hq⟩ | ⟨hn1, hq⟩
    · have c2 := ((IH f).loc _ _ _ _ _ hq).1
      refine (IH f).run _ _ _ _ _ _ w β ho1 hs hN (fun i h1 h2 => hf i h1 (by simp only; omega)) ha _ fun ar' w' β' e1 e2 e3 e4 => ?_
      cases he1 : o1.a.1 with
      | normal =>
        exact chain_run IH l f _ ar' _ _ _ w' β' hq hn e2 (Nat.le_trans hN e4.size) (fresh_left e1 hf c1) e3 Q rest fun ar'' w'' β'' k1 k2 k3 k4 => hQ ar'' w'' β'' (e1.trans k1 c1 c2) k2 k3 (e4.trans k4)
      | _ => rw [he1] at hn1; cases hn1
    · simp only [ret, Option.some.injEq] at hq; subst hq
      simp only at hn
      rw [hn] at hn1; cases hn1
theorem steps_ok {E1 E2 : List Value} {s1 s2 : Lit} {eqs : List (Value × Value)} {π : List (Nat × Nat)} {tab : TabF} {sp : SpF} {f : Nat} {cs : List Code} {rest code : Code} (hcode : code = chain cs rest) (hsp : @SpOK (env E1) Try.prog sp) (htab : @TabOK (env E1) Try.prog tab) (heqs : ∀ p ∈ eqs, EqOK E1 E2 p)
    (hc : chkTo Try.prog tab sp f (chain cs .skip) s1 eqs π .normal s2 = true) {N : Nat} {ar : Act} {w : World} (hs : Stands N E1 s1 ar w) (hN : N ≤ w.heap.size) {Q : Exit → Act → World → Prop} (hQ : ∀ ar' w', Stands N E2 s2 ar' w' → Keep N w w' → rest.wp Try.prog Q ar' w') : code.wp Try.prog Q ar w := by
  rw [hcode]
  obtain ⟨o, hev, hn, hst⟩ := to_stands heqs hc
  obtain ⟨β, k1, k2, k3, k4⟩ := hs
  letI : Env := env E1
  have har : AR β ⟨(s1.l ++ List.replicate (s1.l.length - s1.l.length) undef).toArray, []⟩ ar := ⟨by simpa using k2, rfl, k3⟩
  exact chain_run (fun f => evCode_ok (P := Try.prog) (N := N) hsp htab mixed noCount' f) cs f _ _ _ _ o w β hev hn k1 hN (fun i h1 _ => k4 i h1) har Q rest fun ar' w' β' e1 e2 e3 e4 => hQ ar' w' (hst N ar' w' β' e2 e3) e4
theorem wp_seq' {P : Program} {c : Code} {Q : Exit → Act → World → Prop} {a : Act} {w : World} (x y : Code) (e : c = .seq x y) (h : x.wp P (Exit.then (y.wp P Q) Q) a w) : c.wp P Q a w := by
  rw [e]; exact wp_seq h
theorem wp_block' {P : Program} {c : Code} {Q : Exit → Act → World → Prop} {a : Act} {w : World} (id : Nat) (b : Code) (e : c = .block id b) (h : b.wp P (Exit.inBlock id Q) a w) : c.wp P Q a w := by
  rw [e]; exact wp_block h
theorem wp_loop' {P : Program} {c : Code} {Q : Exit → Act → World → Prop} {a : Act} {w : World} (b : Code) (e : c = .loop b) (m : Nat) (h : Code.rounds P b Q m a w) : c.wp P Q a w := by
  rw [e]; exact wp_loop_rounds m h
theorem eqsNil {E1 E2 : List Value} : ∀ p ∈ ([] : List (Value × Value)), EqOK E1 E2 p := fun p h => by cases h
theorem eqsCons {E1 E2 : List Value} {p : Value × Value} {l : List (Value × Value)} (h : EqOK E1 E2 p) (k : ∀ q ∈ l, EqOK E1 E2 q) : ∀ q ∈ p :: l, EqOK E1 E2 q := fun x hx => by
  rcases List.mem_cons.1 hx with rfl | hx
  · exact h
  · exact k x hx
/-- What is asked of a function's end: it returns true, and all that was there is as it was. -/
def EndsTrue (fn : Func) (w0 : World) (e : Exit) (ar : Act) (w : World) : Prop :=
  e = .ret ∧ ∃ E s t, fn.results.toList = [.tmp t] ∧ s.l[t]? = some (.bool true) ∧ Stands w0.heap.size E s ar w ∧ Keep w0.heap.size w0 w
theorem law_of {F : FuncId} {fn : Func} {code : Code} (hfn : Try.prog.funcs[F]? = some fn) (hb : fn.body = some code) {E : List Value} {s : Lit} {args' : List Value} (hl : @PW (env E) (fun _ => none) s.l (args' ++ List.replicate (fn.ntmps - args'.length) undef)) (ho : s.o = [])
    (w : World) (h : ∀ ar, Stands w.heap.size E s ar w → code.wp Try.prog (EndsTrue fn w) ar w) : Calls Try.prog F args'.toArray w (fun e w' => e = .returned (.bool true) ∧ Only [] w w') := by
  refine calls_of_wp hfn hb ?_
  refine wp_mono (h _ ?_) ?_
  · refine ⟨fun _ => none, ?_, by simpa using hl, rfl, fun _ _ => rfl⟩
    have : heapOf s = .lf := by unfold heapOf; rw [ho]; rfl
    rw [this]
    exact @Sim.nothing (env E) _ _ w
  · rintro e ar' w' ⟨rfl, E', s', t, h1, h2, ⟨β, h3, h4, h5, h6⟩, h7⟩
    letI : Env := env E'
    refine ⟨h5, .bool true, ?_, rfl, h7.only⟩
    obtain ⟨v', g1, g2⟩ := h4.get h2
    rw [g2.bool_eq] at g1
    have hd : ar'.tmps.getD t undef = .bool true := by
      have : ar'.tmps[t]? = some (.bool true) := by simpa using g1
      rw [Array.getD_eq_getD_getElem?, this]; rfl
    refine results_run (vs := [.bool true]) ?_
    rw [h1]
    simp [resOne, hd]
def fnAt (P : Program) (k : Nat) : Func := (P.funcs[k]?).getD default
def codeAt (P : Program) (k : Nat) : Code := ((fnAt P k).body).getD .skip
def seqL : Code → Code
  | .seq x _ => x
  | c => c
def seqR : Code → Code
  | .seq _ y => y
  | c => c
def inB : Code → Code
  | .block _ b => b
  | .loop b => b
  | .scope b => b
  | c => c
def idB : Code → Nat
  | .block id _ => id
  | _ => 0
end Go.Proofs.Ytdpmjghdmpaehaa.ev
