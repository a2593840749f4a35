/-
  More operations: slices cut, made, appended to and copied; comparisons with nothing; lengths. Conditions: none.
-/
import Derived.Test.YtdpmjghdmpaehaaEvD
namespace Go.Proofs.Ytdpmjghdmpaehaa.ev
set_option linter.unusedVariables false
set_option linter.unusedSimpArgs false
variable {P : Program} {N : Nat} {β : Mp}
/-- A bound of a slice expression: what it says, at most y; d where there is none. -/
def boundOf (y d : Nat) : Option Value → Option Nat
  | none => some d
  | some (.int _ (.ofNat m)) => match Nat.ble m y with
    | true => some m
    | false => none
  | some _ => none
theorem boundOf_some {y d m : Nat} {v : Value} (h : boundOf y d (some v) = some m) : ∃ k, v = .int k (m : Int) ∧ m ≤ y := by
  unfold boundOf at h
  split at h
  · rename_i heq; cases heq
  · rename_i heq
    simp only [Option.some.injEq] at heq
    subst heq
    split at h
    · rename_i hb
      simp only [Option.some.injEq] at h; subst h
      exact ⟨_, rfl, Nat.le_of_ble_eq_true hb⟩
    · cases h
  · cases h
theorem run_sliceBound {k : IntKind} {m y : Nat} {code : BoundsCode} (h : m ≤ y) (w : World) : (Instr.sliceBound (.int k (m : Int)) y code).run P w = .ok m w := by
  have : (m : Int) ≤ (y : Int) := by omega
  simp [Instr.sliceBound, asIntOf, Sem.run_bind, this]
theorem run_bounds [Env] {b : Bool} {len cap cap' l h m : Nat} {lo hi mx : Option Value} (hm : boundOf cap cap mx = some m) (hh : boundOf m len hi = some h) (hl : boundOf h 0 lo = some l) (hx : mx.isSome = true → hi.isSome = true) (hc : cap ≤ cap') (w : World) :
    (Instr.sliceBounds b len cap' lo hi mx).run P w = .ok (l, h, if mx.isSome = true then m else cap') w := by
  have e3 : (match lo with | some v => Instr.sliceBound v h (if mx.isSome then .slice3C else .sliceB) | none => pure 0 : Sem Nat).run P w = .ok l w := by
    cases lo with
    | none => simp only [boundOf, Option.some.injEq] at hl; subst hl; simp
    | some v => obtain ⟨k, rfl, h1⟩ := boundOf_some hl; exact run_sliceBound h1 w
  cases mx with
  | none =>
    simp only [boundOf, Option.some.injEq] at hm; subst hm
    cases hi with
    | none =>
      simp only [boundOf, Option.some.injEq] at hh; subst hh
      cases lo with
      | none => simp only [boundOf, Option.some.injEq] at hl; subst hl; simp [Instr.sliceBounds]
      | some v =>
        obtain ⟨k, rfl, h1⟩ := boundOf_some hl
        simp [Instr.sliceBounds, Sem.run_bind, run_sliceBound h1]
    | some u =>
      obtain ⟨k, rfl, h2⟩ := boundOf_some hh
      have h2' : h ≤ cap' := by omega
      cases lo with
      | none => simp only [boundOf, Option.some.injEq] at hl; subst hl; simp [Instr.sliceBounds, Sem.run_bind, run_sliceBound h2']
      | some v =>
        obtain ⟨k, rfl, h1⟩ := boundOf_some hl
        simp [Instr.sliceBounds, Sem.run_bind, run_sliceBound h1, run_sliceBound h2']
  | some x =>
    obtain ⟨k, rfl, h0⟩ := boundOf_some hm
    have h0' : m ≤ cap' := by omega
    cases hi with
    | none => simp at hx
    | some u =>
      obtain ⟨k, rfl, h2⟩ := boundOf_some hh
      cases lo with
      | none => simp only [boundOf, Option.some.injEq] at hl; subst hl; simp [Instr.sliceBounds, Sem.run_bind, run_sliceBound h2, run_sliceBound h0']
      | some v =>
        obtain ⟨k, rfl, h1⟩ := boundOf_some hl
        simp [Instr.sliceBounds, Sem.run_bind, run_sliceBound h1, run_sliceBound h2, run_sliceBound h0']
/-- Bounds are numbers: alike on both sides. -/
def OptEq [Env] (β : Mp) (x x' : Option Value) : Prop := (x = none ∧ x' = none) ∨ ∃ v v', x = some v ∧ x' = some v' ∧ VR β v v'
theorem OptEq.eq_of [Env] {y d m : Nat} {x x' : Option Value} (h : OptEq β x x') (hb : boundOf y d x = some m) : x' = x := by
  rcases h with ⟨rfl, rfl⟩ | ⟨v, v', rfl, rfl, hv⟩
  · rfl
  · obtain ⟨k, rfl, _⟩ := boundOf_some hb
    rw [hv.int_eq]
def lhm (len cap : Nat) (lo hi mx : Option Value) : Option (Nat × Nat × Nat) :=
  match mx.isSome && !hi.isSome with
  | true => none
  | false => match boundOf cap cap mx with
    | some m => match boundOf m len hi with
      | some h => match boundOf h 0 lo with
        | some l => some (l, h, m)
        | none => none
      | none => none
    | none => none
theorem lhm_some {len cap l h m : Nat} {lo hi mx : Option Value} (he : lhm len cap lo hi mx = some (l, h, m)) :
    boundOf cap cap mx = some m ∧ boundOf m len hi = some h ∧ boundOf h 0 lo = some l ∧ (mx.isSome = true → hi.isSome = true) := by
  unfold lhm at he
  split at he
  · cases he
  · rename_i hc
    split at he
    · rename_i m' hm
      split at he
      · rename_i h' hh
        split at he
        · rename_i l' hl
          simp only [Option.some.injEq, Prod.mk.injEq] at he
          obtain ⟨rfl, rfl, rfl⟩ := he
          refine ⟨hm, hh, hl, fun hx => ?_⟩
          cases hi with
          | some _ => rfl
          | none => rw [hx] at hc; cases hc
        · cases he
      · cases he
    · cases he
theorem boundOf_le [Env] {y d m : Nat} {x : Option Value} (h : boundOf y d x = some m) (hd : d ≤ y) : m ≤ y := by
  cases x with
  | none => simp only [boundOf, Option.some.injEq] at h; omega
  | some v => obtain ⟨_, _, e⟩ := boundOf_some h; exact e
def cutAt (i o l h m sz : Nat) (keep : Bool) : Value := .slice (some ⟨i, cond keep o (o + l * sz), none⟩) (h - l) (m - l)
def cutRow (P : Program) (i o l h m sz : Nat) : Ao → Option Value
  | .row _ te false => some (cutAt i o l h m sz (Nat.beq m l))
  | .row _ te true => match szOf P te with
    | some z => match Nat.beq z sz with
      | true => some (cutAt i o l h m sz false)
      | false => none
    | none => none
  | _ => none
def evSlice (P : Program) (t : TypeId) (lo hi mx : Option Value) : Value → Comp Value
  | .slice (some ⟨i, o, none⟩) len cap => match P.underlying t with
    | some (.slice elem) => match szOf P elem with
      | some sz => match lhm len cap lo hi mx with
        | some (l, h, m) => bind (rd i) fun ao => ofOpt (cutRow P i o l h m sz ao)
        | none => fail
      | none => fail
    | _ => fail
  | .pointer (some ⟨i, o, none⟩) => match P.underlying t with
    | some (.array n elem) => match szOf P elem with
      | some sz => match lhm n n lo hi mx with
        | some (l, h, m) => ret (cutAt i o l h m sz (Nat.beq m l))
        | none => fail
      | none => fail
    | _ => fail
  | _ => fail
theorem add_none (b o k : Nat) : (⟨b, o, none⟩ : Addr).add k = ⟨b, o + k, none⟩ := Addr.add_mid b o k
theorem evSlice_ok [Env] {t : TypeId} {lo hi mx lo' hi' mx' : Option Value} {x x' : Value} (hx : VR β x x') (h1 : OptEq β lo lo') (h2 : OptEq β hi hi') (h3 : OptEq β mx mx') :
    RunS P N β (evSlice P t lo hi mx x) (Instr.sliceAt t x' lo' hi' mx') := by
  cases hx with
  | @ptr i I o hβ =>
    simp only [evSlice]
    split
    · rename_i n elem hu
      split
      · rename_i sz hsz
        split
        · rename_i l h m hb
          obtain ⟨hm, hh, hl, hx⟩ := lhm_some hb
          rw [h1.eq_of hl, h2.eq_of hh, h3.eq_of hm]
          have hmn := boundOf_le hm (Nat.le_refl _)
          have hlh := boundOf_le hl (Nat.zero_le _)
          have hhm : h ≤ m := by
            cases hi with
            | none =>
              cases mx with
              | none => simp only [boundOf, Option.some.injEq] at hh hm; omega
              | some _ => simp at hx
            | some u => obtain ⟨_, _, e⟩ := boundOf_some hh; exact e
          have hmm : (if mx.isSome = true then m else n) = m := by
            cases mx with
            | none => simp only [boundOf, Option.some.injEq] at hm; simp [hm]
            | some _ => simp
          have hr := fun w => run_bounds (P := P) (b := false) hm hh hl hx (Nat.le_refl n) w
          rw [hmm] at hr
          refine RunS.pure (v' := .slice (some ⟨I.blk, I.base + cond (Nat.beq m l) o (o + l * sz), none⟩) (h - l) (m - l)) ?_ (fun w => ?_)
          · exact .sl _ _ _ _ hβ (by omega) (Nat.le_refl _) (.inl rfl) (.inl rfl)
          · have hs := run_sizeOf (P := P) hsz w
            cases hml : Nat.beq m l with
            | true =>
              have := Nat.of_beq hml
              simp [Instr.sliceAt, Sem.run_bind, run_underlying hu, Instr.sureAddr, hr, hs, this]
            | false =>
              have : ¬ m = l := fun e => by subst e; simp at hml
              simp [Instr.sliceAt, Sem.run_bind, run_underlying hu, Instr.sureAddr, hr, hs, this, add_none, Nat.add_assoc]
        · exact RunS.fail
      · exact RunS.fail
    · exact RunS.fail
  | @sl i I a' o len cap cap' hβ hlc hcc hd ha =>
    simp only [evSlice]
    split
    · rename_i elem hu
      split
      · rename_i sz hsz
        split
        · rename_i l h m hb
          obtain ⟨hm, hh, hl, hx⟩ := lhm_some hb
          have hmn := boundOf_le hm (Nat.le_refl _)
          have hlh := boundOf_le hl (Nat.zero_le _)
          have hhm : h ≤ m := by
            cases hi with
            | none =>
              cases mx with
              | none => simp only [boundOf, Option.some.injEq] at hh hm; omega
              | some _ => simp at hx
            | some u => obtain ⟨_, _, e⟩ := boundOf_some hh; exact e
          refine RunS.rd fun ao c hh' q w hq hao hs hN hfr => ?_
          obtain ⟨v, hv, rfl⟩ := ofOpt_some hq
          obtain ⟨I', hI, hN', hlt, hob⟩ := hs.obj i ao hao
          rw [hβ] at hI; cases hI
          have hr := run_bounds (P := P) (b := true) (cap' := cap') hm hh hl hx hcc w
          have hs' := run_sizeOf (P := P) hsz w
          rw [h1.eq_of hl, h2.eq_of hh, h3.eq_of hm]
          -- the model's run
          have hrun : ∀ m', (if mx.isSome = true then m else cap') = m' → (Instr.sliceAt t (.slice (some a') len cap') lo hi mx).run P w = .ok (.slice (some (if m' = l then a' else a'.add (l * sz))) (h - l) (m' - l)) w := by
            intro m' hm'
            rw [hm'] at hr
            simp [Instr.sliceAt, Instr.slice, Sem.run_bind, run_underlying hu, hr, hs']
            split <;> rfl
          have hm1 : mx.isSome = false → m = cap := fun e => by
            cases mx with
            | none => simpa [boundOf] using hm.symm
            | some _ => simp at e
          cases ao with
          | map es clk => cases hv
          | iter q0 p0 => cases hv
          | mapIt q0 q1 q2 q3 => cases hv
          | row C te g =>
            obtain ⟨hok, vs, hpw, hlen, hra, hth, hg0, hg1⟩ := hob
            have addr : ∀ {m'}, m' ≠ l → l ≤ m' → m' ≤ cap' → a' = ⟨I.blk, I.base + o, none⟩ := fun {m'} e1 e2 e3 => by
              rcases ha with ha | ha
              · exact ha
              · omega
            cases g with
            | false =>
              simp only [cutRow, Option.some.injEq] at hv; subst hv
              have hcap : cap' = cap := by
                rcases hd with rfl | ⟨d1, d2, d3⟩
                · rfl
                · rcases (hg0 rfl).1 with hr0 | hr0
                  rotate_left
                  · omega
                  rw [hr0] at d3
                  have : cap' * I.sz ≤ cap * I.sz := by omega
                  have := Nat.le_of_mul_le_mul_right this d1
                  omega
              have hm' : (if mx.isSome = true then m else cap') = m := by
                cases hq : mx.isSome with
                | true => simp
                | false => simp [hcap, hm1 hq]
              have hrun := hrun m hm'
              cases hml : Nat.beq m l with
              | true =>
                have e := Nat.of_beq hml
                rw [if_pos e] at hrun
                refine Does.val hs ?_ hrun
                simp only [cutAt, cond_true]
                have : m - l = 0 := by omega
                exact .sl _ _ _ _ hβ (by omega) (Nat.le_refl _) (.inl rfl) (.inr (by omega))
              | false =>
                have e : ¬ m = l := fun e => by subst e; simp at hml
                rw [if_neg e] at hrun
                have ha2 := addr e (by omega) (by omega)
                subst ha2
                rw [add_none] at hrun
                refine Does.val hs ?_ hrun
                simp only [cutAt, cond_false]
                exact .sl _ _ _ _ hβ (by omega) (Nat.le_refl _) (.inl rfl) (.inl (by rw [Nat.add_assoc]))
            | true =>
              simp only [cutRow] at hv
              split at hv
              · rename_i z hz
                split at hv
                · rename_i hzb
                  have hzs := Nat.of_beq hzb
                  simp only [Option.some.injEq] at hv; subst hv
                  obtain ⟨hsz1, hsz0⟩ := hg1.1 rfl
                  have hIsz : I.sz = sz := by
                    have : some I.sz = some z := hsz1.symm.trans hz
                    simp only [Option.some.injEq] at this
                    omega
                  have hrun := hrun _ rfl
                  cases hqm : mx.isSome with
                  | true =>
                    simp only [hqm, if_true] at hrun
                    by_cases e : m = l
                    · rw [if_pos e] at hrun
                      refine Does.val hs ?_ hrun
                      simp only [cutAt, cond_false]
                      exact .sl _ _ _ _ hβ (by omega) (Nat.le_refl _) (.inl rfl) (.inr (by omega))
                    · have ha2 := addr e (by omega) (by omega)
                      subst ha2
                      rw [if_neg e, add_none] at hrun
                      refine Does.val hs ?_ hrun
                      simp only [cutAt, cond_false]
                      exact .sl _ _ _ _ hβ (by omega) (Nat.le_refl _) (.inl rfl) (.inl (by rw [Nat.add_assoc]))
                  | false =>
                    have hmc := hm1 hqm
                    subst hmc
                    simp only [hqm, Bool.false_eq_true, if_false] at hrun
                    by_cases e : cap' = l
                    · rw [if_pos e] at hrun
                      refine Does.val hs ?_ hrun
                      simp only [cutAt, cond_false]
                      exact .sl _ _ _ _ hβ (by omega) (by omega) (.inl (by omega)) (.inr (by omega))
                    · have ha2 := addr e (by omega) (Nat.le_refl _)
                      subst ha2
                      rw [if_neg e, add_none] at hrun
                      refine Does.val hs ?_ hrun
                      simp only [cutAt, cond_false]
                      refine .sl _ _ _ _ hβ (by omega) (by omega) ?_ (.inl (by rw [Nat.add_assoc]))
                      rcases hd with rfl | ⟨d1, d2, d3⟩
                      · exact .inl rfl
                      · refine .inr ⟨d1, ?_, ?_⟩
                        · rw [← hIsz, Nat.add_assoc, ← Nat.add_mul, show l + (m - l) = m from by omega]; exact d2
                        · rw [← hIsz, Nat.add_assoc, ← Nat.add_mul, show l + (cap' - l) = cap' from by omega]; exact d3
                · cases hv
              · cases hv
        · exact RunS.fail
      · exact RunS.fail
    · exact RunS.fail
  | _ => exact RunS.fail
end Go.Proofs.Ytdpmjghdmpaehaa.ev
