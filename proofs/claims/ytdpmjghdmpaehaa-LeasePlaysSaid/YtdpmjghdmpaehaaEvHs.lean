/-
  Rows of which the end is not known: places in them, parts of them, their lengths, and what is appended from them. Conditions: none.
-/
import Derived.Test.YtdpmjghdmpaehaaEvHa
namespace Go.Proofs.Ytdpmjghdmpaehaa.ev
set_option linter.unusedVariables false
set_option linter.unusedSimpArgs false
variable {P : Program} {N : Nat} {β : Mp}
/-! ### Places -/
def ixS (P : Program) (t : TypeId) (x ix : Value) : Option Value :=
  match P.underlying t with
  | some (.slice elem) => match x with
    | .slice (some ⟨i, o, some _⟩) l _ => match ixOf l ix with
      | some m => match szOf P elem with
        | some 1 => some (.pointer (some ⟨i, o + m, none⟩))
        | _ => none
      | none => none
    | _ => none
  | _ => none
theorem run_indexAt_one {t elem : TypeId} {b o L C m : Nat} {k : IntKind} (hu : P.underlying t = some (.slice elem)) (hn : szOf P elem = some 1) (hm : m < L) (w : World) :
    (Instr.indexAt t (.slice (some ⟨b, o, none⟩) L C) (.int k (m : Int))).run P w = .ok (.pointer (some ⟨b, o + m, none⟩)) w := by
  have hsz := run_sizeOf (P := P) hn w
  have : (m : Int) < (L : Int) := by omega
  simp [Instr.indexAt, asIntOf, Sem.run_bind, run_underlying hu, this, hsz, Addr.add_mid]
  intro hge; omega
theorem ixS_ok [Env] {t : TypeId} {x x' ix ix' : Value} (hx : VR β x x') (hi : VR β ix ix') : RunS P N β (ofOpt (ixS P t x ix)) (Instr.indexAt t x' ix') := by
  refine RunS.opt fun v hv => ?_
  unfold ixS at hv
  split at hv
  · rename_i elem hu
    split at hv
    · rename_i i o sp l d
      split at hv
      · rename_i m hm
        obtain ⟨k, rfl, hlt⟩ := ixOf_some hm
        split at hv
        · rename_i hn
          simp only [Option.some.injEq] at hv; subst hv
          rw [hi.int_eq]
          cases hx with
          | @ssl _ I a' _ q _ _ c' hβ h1 h2 h3 h4 h5 h6 =>
            have ha : a' = ⟨I.blk, I.base + o, none⟩ := by
              rcases h6 with h6 | h6
              · exact h6
              · omega
            subst ha
            refine ⟨_, .ptr (o + m) hβ, fun w => ?_⟩
            rw [← Nat.add_assoc]
            exact run_indexAt_one hu hn (by omega) w
          | @ksl _ I a' _ _ _ c' hβ h1 h2 h3 =>
            have ha : a' = ⟨I.blk, I.base + o, none⟩ := by
              rcases h3 with h3 | h3
              · exact h3
              · omega
            subst ha
            refine ⟨_, .ptr (o + m) hβ, fun w => ?_⟩
            rw [← Nat.add_assoc]
            exact run_indexAt_one hu hn hlt w
        · cases hv
      · cases hv
    · cases hv
  · cases hv
def ixAny (P : Program) (t : TypeId) (x ix : Value) : Option Value :=
  match x with
  | .slice (some ⟨i, o, some s⟩) l d => ixS P t (.slice (some ⟨i, o, some s⟩) l d) ix
  | x => ixAddr P t x ix
theorem ixAny_ok [Env] {t : TypeId} {x x' ix ix' : Value} (hx : VR β x x') (hi : VR β ix ix') : RunS P N β (ofOpt (ixAny P t x ix)) (Instr.indexAt t x' ix') := by
  unfold ixAny
  split
  · exact ixS_ok hx hi
  · exact ixAddr_ok hx hi
/-! ### Parts -/
/-- A first bound. -/
def lowOf : Option Value → Option Nat
  | none => some 0
  | some (.int _ (.ofNat a)) => some a
  | _ => none
theorem lowOf_ok [Env] {lo lo' : Option Value} {a : Nat} (h : lowOf lo = some a) (hv : OptEq β lo lo') : (lo' = none ∧ a = 0) ∨ ∃ k, lo' = some (.int k (a : Int)) := by
  rcases hv with ⟨rfl, rfl⟩ | ⟨v, v', rfl, rfl, hv⟩
  · simp only [lowOf, Option.some.injEq] at h
    exact .inl ⟨rfl, h.symm⟩
  · unfold lowOf at h
    split at h
    · rename_i e; cases e
    · rename_i k m e
      simp only [Option.some.injEq] at e h; subst h
      subst e
      exact .inr ⟨k, by rw [hv.int_eq]; rfl⟩
    · cases h
/-- A part: how its end is told, how long it is at least, how long it is. -/
def partS (s l d a : Nat) : Option Value → Option (Nat × Nat × Nat)
  | none => match Nat.ble a l with
    | true => match s with
      | 0 => some (0, l - a, 0)
      | q + 1 => some (q + 1, l - a, subD d a)
    | false => none
  | some (.int _ (.ofNat b)) => match Nat.ble a b && Nat.ble b l with
    | true => some (0, b - a, 0)
    | false => none
  | some (.chan (some j)) => match s with
    | 0 => none
    | q + 1 => match Nat.beq j q && (Nat.beq (d % 2) 0 && Nat.ble a (l - d / 2)) with
      | true => some (q + 1, l - d / 2 - a, subD 0 a)
      | false => none
  | _ => none
theorem run_boundsS {len cap a H : Nat} {lo hi : Option Value} (hlo : (lo = none ∧ a = 0) ∨ ∃ k, lo = some (.int k (a : Int))) (hhi : (hi = none ∧ H = len) ∨ ∃ k, hi = some (.int k (H : Int))) (h1 : a ≤ H) (h2 : H ≤ cap) (h3 : len ≤ cap) (w : World) :
    (Instr.sliceBounds true len cap lo hi none).run P w = .ok (a, H, cap) w := by
  rcases hlo with ⟨rfl, rfl⟩ | ⟨k, rfl⟩ <;> rcases hhi with ⟨rfl, rfl⟩ | ⟨k', rfl⟩
  · simp [Instr.sliceBounds]
  · simp [Instr.sliceBounds, Sem.run_bind, run_sliceBound h2]
  · simp [Instr.sliceBounds, Sem.run_bind, run_sliceBound h1]
  · simp [Instr.sliceBounds, Sem.run_bind, run_sliceBound h1, run_sliceBound h2]
theorem run_sliceS {t elem : TypeId} {A : Addr} {L C a H : Nat} {lo hi : Option Value} (hu : P.underlying t = some (.slice elem)) (hn : szOf P elem = some 1) (hlo : (lo = none ∧ a = 0) ∨ ∃ k, lo = some (.int k (a : Int))) (hhi : (hi = none ∧ H = L) ∨ ∃ k, hi = some (.int k (H : Int))) (h1 : a ≤ H) (h2 : H ≤ C) (h3 : L ≤ C) (w : World) :
    (Instr.sliceAt t (.slice (some A) L C) lo hi none).run P w = .ok (.slice (some (if C = a then A else A.add a)) (H - a) (C - a)) w := by
  have hr := run_boundsS (P := P) hlo hhi h1 h2 h3 w
  have hs := run_sizeOf (P := P) hn w
  simp [Instr.sliceAt, Instr.slice, Sem.run_bind, run_underlying hu, hr, hs]
  split <;> simp_all
def evPartS (P : Program) (t : TypeId) (lo hi mx : Option Value) : Value → Option Value
  | .slice (some ⟨i, o, some s⟩) l d => match P.underlying t with
    | some (.slice elem) => match szOf P elem with
      | some 1 => match mx with
        | none => match lowOf lo with
          | some a => match partS s l d a hi with
            | some (s', l', d') => some (.slice (some ⟨i, o + a, some s'⟩) l' d')
            | none => none
          | none => none
        | some _ => none
      | _ => none
    | _ => none
  | _ => none
theorem lenOf_eq [Env] {q : Nat} {n : Nat} (h : Env.E q = .int .i64 (n : Int)) : lenOf q = n := by unfold lenOf; rw [h]
theorem evPartS_ok [Env] {t : TypeId} {lo hi mx lo' hi' mx' : Option Value} {x x' : Value} (hx : VR β x x') (h1 : OptEq β lo lo') (h2 : OptEq β hi hi') (h3 : OptEq β mx mx') :
    RunS P N β (ofOpt (evPartS P t lo hi mx x)) (Instr.sliceAt t x' lo' hi' mx') := by
  refine RunS.opt fun v hv => ?_
  unfold evPartS at hv
  split at hv
  rotate_left
  · cases hv
  rename_i i o s l d
  split at hv
  rotate_left
  · cases hv
  rename_i elem hu
  split at hv
  rotate_left
  · cases hv
  rename_i hn
  split at hv
  rotate_left
  · cases hv
  have hmx : mx' = none := by
    rcases h3 with ⟨_, h⟩ | ⟨v, v', h, _⟩
    · exact h
    · cases h
  subst hmx
  split at hv
  rotate_left
  · cases hv
  rename_i a ha
  have hlo := lowOf_ok ha h1
  split at hv
  rotate_left
  · cases hv
  rename_i s' l' d' hp
  simp only [Option.some.injEq] at hv; subst hv
  -- what the bounds come to
  have fin : ∀ (I : Im) (a' : Addr) (L C H : Nat), β i = some I → x' = .slice (some a') L C → L ≤ C → a ≤ H → H ≤ L → o + L ≤ I.n → (a' = ⟨I.blk, I.base + o, none⟩ ∨ C = 0) → (s' = 0 ∨ o + C ≤ I.n + I.room) → ((hi' = none ∧ H = L) ∨ ∃ k, hi' = some (.int k (H : Int))) →
      ((s' = 0 ∧ l' = H - a) ∨ ∃ q, s' = q + 1 ∧ lenS q d' = H - a ∧ l' ≤ H - a ∧ lenOf q ≤ 2 ^ 40 ∧ ∃ n : Nat, Env.E q = .int .i64 n) →
      ∃ v', VR β (.slice (some ⟨i, o + a, some s'⟩) l' d') v' ∧ ∀ w, (Instr.sliceAt t x' lo' hi' none).run P w = .ok v' w := fun I a' L C H hβ hx hLC haH hHL hon hadr hroom hhi hres => by
    subst hx
    refine ⟨_, ?_, fun w => run_sliceS hu hn hlo hhi haH (by omega) hLC w⟩
    have hadr' : (if C = a then a' else a'.add a) = ⟨I.blk, I.base + (o + a), none⟩ ∨ C - a = 0 := by
      by_cases e : C = a
      · exact .inr (by omega)
      · rw [if_neg e]
        rcases hadr with rfl | h0
        · exact .inl (by rw [add_none, Nat.add_assoc])
        · exact .inr (by omega)
    rcases hres with ⟨rfl, rfl⟩ | ⟨q, rfl, r1, r2, r3, r4⟩
    · exact .ksl _ _ _ _ hβ (by omega) (by omega) hadr'
    · have := VR.ssl (β := β) (o + a) q l' d' (C - a) hβ (by omega) (by omega) (by omega) r3 r4 hadr' (by have := hroom; omega)
      rwa [r1] at this
  cases hx with
  | @ssl _ I a' _ q _ _ C hβ k1 k2 k3 k4 k5 k6 k7 =>
    unfold partS at hp
    split at hp
    · have hh : hi' = none := by
        rcases h2 with ⟨_, h⟩ | ⟨v, v', h, _⟩
        · exact h
        · cases h
      split at hp
      · rename_i hle
        have hle := Nat.le_of_ble_eq_true hle
        simp only [Option.some.injEq, Prod.mk.injEq] at hp
        obtain ⟨rfl, rfl, rfl⟩ := hp
        exact fin I a' _ C _ hβ rfl k2 (by omega) (Nat.le_refl _) k3 k6 (.inr k7) (.inl ⟨hh, rfl⟩) (.inr ⟨q, rfl, lenS_sub q d a, by omega, k4, k5⟩)
      · cases hp
    · rename_i kk b
      obtain ⟨v', hh, hv⟩ : ∃ v', hi' = some v' ∧ VR β (.int kk (b : Int)) v' := by
        rcases h2 with ⟨h, _⟩ | ⟨v, v', h, h', hv⟩
        · cases h
        · cases h; exact ⟨v', h', hv⟩
      have hv := hv.int_eq
      subst hv
      split at hp
      · rename_i hb
        simp only [Bool.and_eq_true] at hb
        have hb1 := Nat.le_of_ble_eq_true hb.1
        have hb2 := Nat.le_of_ble_eq_true hb.2
        simp only [Option.some.injEq, Prod.mk.injEq] at hp
        obtain ⟨rfl, rfl, rfl⟩ := hp
        exact fin I a' _ C b hβ rfl k2 hb1 (by omega) k3 k6 (.inl rfl) (.inr ⟨kk, hh⟩) (.inl ⟨rfl, rfl⟩)
      · cases hp
    · rename_i j
      obtain ⟨v', hh, hv⟩ : ∃ v', hi' = some v' ∧ VR β (.chan (some j)) v' := by
        rcases h2 with ⟨h, _⟩ | ⟨v, v', h, h', hv⟩
        · cases h
        · cases h; exact ⟨v', h', hv⟩
      simp only at hp
      split at hp
      · rename_i hb
        simp only [Bool.and_eq_true] at hb
        have hb1 := Nat.of_beq hb.1
        have hb2 := Nat.of_beq hb.2.1
        have hb3 := Nat.le_of_ble_eq_true hb.2.2
        simp only [Option.some.injEq, Prod.mk.injEq] at hp
        obtain ⟨rfl, rfl, rfl⟩ := hp
        subst hb1
        obtain ⟨n, hn'⟩ := k5
        have hln := lenOf_eq hn'
        have hls : lenS j d = n + d / 2 := by unfold lenS; rw [if_pos hb2, hln]
        have hve : v' = .int .i64 (n : Int) := by
          rw [← hn']
          cases hv; rfl
        subst hve
        refine fin I a' _ C n hβ rfl k2 (by omega) (by omega) k3 k6 (.inr k7) (.inr ⟨.i64, hh⟩) (.inr ⟨j, rfl, ?_, by omega, k4, n, hn'⟩)
        rw [lenS_sub, lenS_zero, hln]
      · cases hp
    · cases hp
  | @ksl _ I a' _ _ _ C hβ k1 k2 k3 =>
    unfold partS at hp
    split at hp
    · have hh : hi' = none := by
        rcases h2 with ⟨_, h⟩ | ⟨v, v', h, _⟩
        · exact h
        · cases h
      split at hp
      · rename_i hle
        have hle := Nat.le_of_ble_eq_true hle
        simp only [Option.some.injEq, Prod.mk.injEq] at hp
        obtain ⟨rfl, rfl, rfl⟩ := hp
        exact fin I a' _ C _ hβ rfl k1 hle (Nat.le_refl _) k2 k3 (.inl rfl) (.inl ⟨hh, rfl⟩) (.inl ⟨rfl, rfl⟩)
      · cases hp
    · rename_i kk b
      obtain ⟨v', hh, hv⟩ : ∃ v', hi' = some v' ∧ VR β (.int kk (b : Int)) v' := by
        rcases h2 with ⟨h, _⟩ | ⟨v, v', h, h', hv⟩
        · cases h
        · cases h; exact ⟨v', h', hv⟩
      have hv := hv.int_eq
      subst hv
      split at hp
      · rename_i hb
        simp only [Bool.and_eq_true] at hb
        have hb1 := Nat.le_of_ble_eq_true hb.1
        have hb2 := Nat.le_of_ble_eq_true hb.2
        simp only [Option.some.injEq, Prod.mk.injEq] at hp
        obtain ⟨rfl, rfl, rfl⟩ := hp
        exact fin I a' _ C b hβ rfl k1 hb1 hb2 k2 k3 (.inl rfl) (.inr ⟨kk, hh⟩) (.inl ⟨rfl, rfl⟩)
      · cases hp
    · cases hp
    · cases hp
/-- A part whose bounds are all told, of what is known to be there. -/
def evPartM (P : Program) (t : TypeId) (lo hi mx : Option Value) : Value → Option Value
  | .slice (some ⟨i, o, some s⟩) l d => match P.underlying t with
    | some (.slice elem) => match szOf P elem with
      | some 1 => match hi with
        | some _ => match lhm l l lo hi mx with
          | some (a, h, m) => some (cutAt i o a h m 1 (Nat.beq m a))
          | none => none
        | none => none
      | _ => none
    | _ => none
  | _ => none
theorem evPartM_ok [Env] {t : TypeId} {lo hi mx lo' hi' mx' : Option Value} {x x' : Value} (hm0 : mx.isSome = true) (hx : VR β x x') (h1 : OptEq β lo lo') (h2 : OptEq β hi hi') (h3 : OptEq β mx mx') :
    RunS P N β (ofOpt (evPartM P t lo hi mx x)) (Instr.sliceAt t x' lo' hi' mx') := by
  refine RunS.opt fun v hv => ?_
  unfold evPartM at hv
  split at hv
  rotate_left
  · cases hv
  rename_i i o s l d
  split at hv
  rotate_left
  · cases hv
  rename_i elem hu
  split at hv
  rotate_left
  · cases hv
  rename_i hn
  split at hv
  rotate_left
  · cases hv
  rename_i u
  split at hv
  rotate_left
  · cases hv
  rename_i a h m hb
  simp only [Option.some.injEq] at hv; subst hv
  obtain ⟨hm, hh, hl, hxx⟩ := lhm_some hb
  rw [h1.eq_of hl, h2.eq_of hh, h3.eq_of hm]
  have hml := boundOf_le hm (Nat.le_refl _)
  have hlh := boundOf_le hl (Nat.zero_le _)
  have hhm : h ≤ m := by obtain ⟨_, _, e⟩ := boundOf_some hh; exact e
  have fin : ∀ (I : Im) (a' : Addr) (L C : Nat), β i = some I → x' = .slice (some a') L C → l ≤ C → (a' = ⟨I.blk, I.base + o, none⟩ ∨ C = 0) →
      ∃ v', VR β (cutAt i o a h m 1 (Nat.beq m a)) v' ∧ ∀ w, (Instr.sliceAt t x' lo (some u) mx).run P w = .ok v' w := fun I a' L C hβ hx' hlC hadr => by
    subst hx'
    have hh2 : boundOf m L (some u) = some h := by
      obtain ⟨k, rfl, _⟩ := boundOf_some hh
      exact hh
    refine ⟨.slice (some (if m = a then a' else a'.add a)) (h - a) (m - a), ?_, fun w => ?_⟩
    · unfold cutAt
      cases hma : Nat.beq m a with
      | true =>
        have e := Nat.of_beq hma
        rw [if_pos e, cond_true]
        exact .sl _ _ _ _ hβ (by omega) (Nat.le_refl _) (.inl rfl) (.inr (by omega))
      | false =>
        have e : ¬ m = a := fun e => by subst e; simp at hma
        rw [if_neg e, cond_false, Nat.mul_one]
        refine .sl _ _ _ _ hβ (by omega) (Nat.le_refl _) (.inl rfl) (.inl ?_)
        rcases hadr with rfl | h0
        · rw [add_none, Nat.add_assoc]
        · omega
    · have hr := run_bounds (P := P) (b := true) (len := L) (cap' := C) hm hh2 hl hxx hlC w
      have hs := run_sizeOf (P := P) hn w
      rw [hm0] at hr
      simp only [if_true] at hr
      simp [Instr.sliceAt, Instr.slice, Sem.run_bind, run_underlying hu, hr, hs]
      split <;> simp_all
  cases hx with
  | @ssl _ I a' _ q _ _ C hβ k1 k2 k3 k4 k5 k6 => exact fin I a' _ C hβ rfl (by omega) k6
  | @ksl _ I a' _ _ _ C hβ k1 k2 k3 => exact fin I a' _ C hβ rfl k1 k3
def evSliceA (P : Program) (t : TypeId) (lo hi mx : Option Value) (x : Value) : Comp Value :=
  match x with
  | .slice (some ⟨i, o, some s⟩) l d => match mx with
    | some m => ofOpt (evPartM P t lo hi (some m) (.slice (some ⟨i, o, some s⟩) l d))
    | none => ofOpt (evPartS P t lo hi none (.slice (some ⟨i, o, some s⟩) l d))
  | x => evSlice P t lo hi mx x
theorem evSliceA_ok [Env] {t : TypeId} {lo hi mx lo' hi' mx' : Option Value} {x x' : Value} (hx : VR β x x') (h1 : OptEq β lo lo') (h2 : OptEq β hi hi') (h3 : OptEq β mx mx') :
    RunS P N β (evSliceA P t lo hi mx x) (Instr.sliceAt t x' lo' hi' mx') := by
  unfold evSliceA
  split
  · split
    · exact evPartM_ok rfl hx h1 h2 h3
    · exact evPartS_ok hx h1 h2 h3
  · exact evSlice_ok hx h1 h2 h3
/-! ### Lengths -/
def lenSv (P : Program) (t : TypeId) : Value → Option Value
  | .slice (some ⟨_, _, some 0⟩) l _ => match P.underlying t with
    | some (.slice _) => some (.int .i64 l)
    | _ => none
  | .slice (some ⟨_, _, some (q + 1)⟩) _ 0 => match P.underlying t with
    | some (.slice _) => some (.chan (some q))
    | _ => none
  | _ => none
def evLenA (P : Program) (t : TypeId) (x : Value) : Comp Value :=
  match x with
  | .slice (some ⟨i, o, some s⟩) l d => ofOpt (lenSv P t (.slice (some ⟨i, o, some s⟩) l d))
  | x => evLen P t x
theorem evLenA_ok [Env] {t ty : TypeId} {x x' : Value} (hx : VR β x x') : RunS P N β (evLenA P t x) (Builtin.len_ #[t] ty #[x']) := by
  unfold evLenA
  split
  · rename_i i o s l d
    refine RunS.opt fun v hv => ?_
    cases hx with
    | ksl o l c c' hβ h1 h2 h3 =>
      simp only [lenSv] at hv
      split at hv
      · rename_i e hu
        simp only [Option.some.injEq] at hv; subst hv
        exact ⟨_, .int .i64 _, fun w => by simp [Builtin.len_, Sem.run_bind, run_underlying hu, goInt]⟩
      · cases hv
    | ssl o q l d c' hβ h1 h2 h3 h4 h5 h6 =>
      cases d with
      | succ d => simp [lenSv] at hv
      | zero =>
        simp only [lenSv] at hv
        split at hv
        · rename_i e hu
          simp only [Option.some.injEq] at hv; subst hv
          obtain ⟨n, hn⟩ := h5
          refine ⟨_, .opq q (by rw [hn]; rfl) (fun b => by rw [hn]; intro h; cases h), fun w => ?_⟩
          rw [hn, lenS_zero, lenOf_eq hn]
          simp [Builtin.len_, Sem.run_bind, run_underlying hu, goInt]
        · cases hv
  · exact evLen_ok hx
end Go.Proofs.Ytdpmjghdmpaehaa.ev
