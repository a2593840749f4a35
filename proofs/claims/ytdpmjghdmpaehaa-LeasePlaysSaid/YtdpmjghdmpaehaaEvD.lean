/-
  More operations: places in rows, parts of structs, slices, structs built. Conditions: none.
-/
import Derived.Test.YtdpmjghdmpaehaaEvC
namespace Go.Proofs.Ytdpmjghdmpaehaa.ev
set_option linter.unusedVariables false
set_option linter.unusedSimpArgs false
variable {P : Program} {N : Nat} {β : Mp}
theorem RunS.opt [Env] {x : Option Value} {s : Sem Value} (h : ∀ v, x = some v → ∃ v', VR β v v' ∧ ∀ w, s.run P w = .ok v' w) : RunS P N β (ofOpt x) s := by
  cases x with
  | none => exact RunS.fail
  | some v => obtain ⟨v', h1, h2⟩ := h v rfl; exact RunS.pure h1 h2
theorem VR.int_eq [Env] {k : IntKind} {n : Int} {v' : Value} (h : VR β (.int k n) v') : v' = .int k n := by cases h; rfl
theorem VR.bool_eq [Env] {b : Bool} {v' : Value} (h : VR β (.bool b) v') : v' = .bool b := by cases h; rfl
/-- What the index says, if it lies below a length. -/
def ixOf (len : Nat) : Value → Option Nat
  | .int _ (.ofNat m) => match Nat.blt m len with
    | true => some m
    | false => none
  | _ => none
theorem ixOf_some {len : Nat} {v : Value} {m : Nat} (h : ixOf len v = some m) : ∃ k, v = .int k (m : Int) ∧ m < len := by
  unfold ixOf at h
  split at h
  · split at h
    · rename_i hb
      simp only [Option.some.injEq] at h; subst h
      exact ⟨_, rfl, Nat.le_of_ble_eq_true hb⟩
    · cases h
  · cases h
def ixAddr (P : Program) (t : TypeId) (x ix : Value) : Option Value :=
  match P.underlying t with
  | some (.array len elem) => match x with
    | .pointer (some ⟨i, o, none⟩) => match ixOf len ix with
      | some m => match szOf P elem with
        | some n => some (.pointer (some ⟨i, o + m * n, none⟩))
        | none => none
      | none => none
    | _ => none
  | some (.slice elem) => match x with
    | .slice (some ⟨i, o, none⟩) len _ => match ixOf len ix with
      | some m => match szOf P elem with
        | some n => some (.pointer (some ⟨i, o + m * n, none⟩))
        | none => none
      | none => none
    | _ => none
  | _ => none
theorem VR.slice_pos [Env] {i o l c : Nat} {v' : Value} (h : VR β (.slice (some ⟨i, o, none⟩) l c) v') (hl : 0 < c) : ∃ I c', β i = some I ∧ v' = .slice (some ⟨I.blk, I.base + o, none⟩) l c' ∧ l ≤ c ∧ c ≤ c' := by
  cases h with
  | sl o l c c' h h1 h2 h3 h4 =>
    rcases h4 with rfl | rfl
    · exact ⟨_, c', h, rfl, h1, h2⟩
    · omega
theorem VR.slice_le [Env] {i o l c : Nat} {v' : Value} (h : VR β (.slice (some ⟨i, o, none⟩) l c) v') : l ≤ c := by
  cases h with
  | sl o l c c' h h1 h2 h3 h4 => exact h1
theorem ixAddr_ok [Env] {t : TypeId} {x x' ix ix' : Value} (hx : VR β x x') (hi : VR β ix ix') : RunS P N β (ofOpt (ixAddr P t x ix)) (Instr.indexAt t x' ix') := by
  refine RunS.opt fun v hv => ?_
  unfold ixAddr at hv
  split at hv
  · rename_i len elem hu
    split at hv
    · rename_i i o
      split at hv
      · rename_i m hm
        obtain ⟨k, rfl, hlt⟩ := ixOf_some hm
        split at hv
        · rename_i n hn
          simp only [Option.some.injEq] at hv; subst hv
          rw [hi.int_eq]
          cases hx with
          | ptr o hβ =>
            refine ⟨_, .ptr (o + m * n) hβ, fun w => ?_⟩
            have hsz := run_sizeOf (P := P) hn w
            have : (m : Int) < (len : Int) := by omega
            simp [Instr.indexAt, asIntOf, Sem.run_bind, run_underlying hu, Instr.sureAddr, this, hsz, Addr.add_mid, Nat.add_assoc]
            intro hge; omega
        · cases hv
      · cases hv
    · cases hv
  · rename_i elem hu
    split at hv
    · rename_i i o len c
      split at hv
      · rename_i m hm
        obtain ⟨k, rfl, hlt⟩ := ixOf_some hm
        split at hv
        · rename_i n hn
          simp only [Option.some.injEq] at hv; subst hv
          rw [hi.int_eq]
          have hle := hx.slice_le
          obtain ⟨I, c', hβ, rfl, _, _⟩ := hx.slice_pos (by omega)
          refine ⟨_, .ptr (o + m * n) hβ, fun w => ?_⟩
          have hsz := run_sizeOf (P := P) hn w
          have : (m : Int) < (len : Int) := by omega
          simp [Instr.indexAt, asIntOf, Sem.run_bind, run_underlying hu, this, hsz, Addr.add_mid, Nat.add_assoc]
          intro hge; omega
        · cases hv
      · cases hv
    · cases hv
  · cases hv
/-! ### Parts of what is no memory -/
def partOf (P : Program) (t : TypeId) (cs : List Value) (off : Nat) : Option Value :=
  match P.underlying t with
  | some d => match d.isRow with
    | true => match szOf P t with
      | some n => some (.agg ((cs.drop off).take n).toArray)
      | none => none
    | false => cs[off]?
  | none => none
theorem extract_eq {cs : Array Value} {a n : Nat} : cs.extract a (a + n) = ((cs.toList.drop a).take n).toArray := by
  apply Array.ext'
  rw [Array.toList_extract]
  simp [List.extract]
theorem partOf_ok [Env] {t : TypeId} {cs cs' : Array Value} {off : Nat} {v : Value} (hp : PW β cs.toList cs'.toList) (h : partOf P t cs.toList off = some v) : ∃ v', VR β v v' ∧ ∀ w, (part t cs' off).run P w = .ok v' w := by
  unfold partOf at h
  split at h
  · rename_i d hd
    split at h
    · rename_i hrow
      split at h
      · rename_i n hn
        simp only [Option.some.injEq] at h; subst h
        refine ⟨_, ((hp.drop off).take n).agg, fun w => ?_⟩
        have hsz := run_sizeOf (P := P) hn w
        simp [part, Sem.run_bind, run_isAgg hd, hrow, hsz, extract_eq]
      · cases h
    · rename_i hrow
      obtain ⟨v', hv', hvr⟩ := hp.get h
      refine ⟨v', hvr, fun w => ?_⟩
      have hv2 : cs'[off]? = some v' := by simpa using hv'
      simp [part, Sem.run_bind, run_isAgg hd, hrow, hv2]
  · cases h
def fieldOf (P : Program) (t : TypeId) (f : Nat) : Value → Option Value
  | .agg cs => match P.underlying t with
    | some (.struct fs) => match fs[f]? with
      | some fd => partOf P fd.type cs.toList fd.offset
      | none => none
    | _ => none
  | _ => none
theorem fieldOf_ok [Env] {t : TypeId} {f : Nat} {x x' : Value} (hx : VR β x x') : RunS P N β (ofOpt (fieldOf P t f x)) (Instr.field t x' f) := by
  refine RunS.opt fun v hv => ?_
  cases hx with
  | agg h1 h2 =>
    simp only [fieldOf] at hv
    split at hv
    · rename_i fs hu
      split at hv
      · rename_i fd hfd
        obtain ⟨v', h3, h4⟩ := partOf_ok (P := P) (PW.of_arr h1 h2) hv
        exact ⟨v', h3, fun w => by simp [Instr.field, Sem.run_bind, run_underlying hu, hfd, asAgg, h4]⟩
      · cases hv
    · cases hv
  | _ => cases hv
def indexOf (P : Program) (t : TypeId) (ix : Value) : Value → Option Value
  | .agg cs => match P.underlying t with
    | some (.array len elem) => match ixOf len ix with
      | some m => match szOf P elem with
        | some n => partOf P elem cs.toList (m * n)
        | none => none
      | none => none
    | _ => none
  | _ => none
theorem indexOf_ok [Env] {t : TypeId} {ix ix' x x' : Value} (hx : VR β x x') (hi : VR β ix ix') : RunS P N β (ofOpt (indexOf P t ix x)) (Instr.index t x' ix') := by
  refine RunS.opt fun v hv => ?_
  cases hx with
  | agg h1 h2 =>
    simp only [indexOf] at hv
    split at hv
    · rename_i len elem hu
      split at hv
      · rename_i m hm
        obtain ⟨k, rfl, hlt⟩ := ixOf_some hm
        rw [hi.int_eq]
        split at hv
        · rename_i n hn
          obtain ⟨v', h3, h4⟩ := partOf_ok (P := P) (PW.of_arr h1 h2) hv
          have : (m : Int) < (len : Int) := by omega
          exact ⟨v', h3, fun w => by have hsz := run_sizeOf (P := P) hn w; simp [Instr.index, asIntOf, Sem.run_bind, run_underlying hu, this, hsz, h4]; intro hge; omega⟩
        · cases hv
      · cases hv
    · cases hv
  | _ => cases hv
def extractOf (ix : Nat) : Value → Option Value
  | .tuple vs => vs[ix]?
  | _ => none
theorem extractOf_ok [Env] {ix : Nat} {x x' : Value} (hx : VR β x x') : RunS P N β (ofOpt (extractOf ix x)) (Instr.extract x' ix) := by
  refine RunS.opt fun v hv => ?_
  cases hx with
  | tuple h1 h2 =>
    simp only [extractOf] at hv
    obtain ⟨v', h3, h4⟩ := (PW.of_arr h1 h2).get (j := ix) (v := v) (by simpa using hv)
    rw [Array.getElem?_toList] at h3
    exact ⟨v', h4, fun w => by simp [Instr.extract, h3]⟩
  | _ => cases hv
/-! ### Built -/
theorem PW.setIf [Env] {a a' : Array Value} (h : PW β a.toList a'.toList) {v v' : Value} (hv : VR β v v') (n : Nat) : PW β (a.setIfInBounds n v).toList (a'.setIfInBounds n v').toList := by
  refine ⟨by simpa using h.1, fun j u u' hu hu' => ?_⟩
  simp only [Array.toList_setIfInBounds] at hu hu'
  rw [List.getElem?_set] at hu hu'
  split at hu
  · rename_i e
    rw [if_pos e] at hu'
    split at hu
    · split at hu'
      · cases hu; cases hu'; exact hv
      · cases hu'
    · cases hu
  · rename_i e
    rw [if_neg e] at hu'
    exact h.2 j u u' hu hu'
theorem PW.foldSet [Env] (off : Nat) : ∀ (l l' : List Value) (k : Nat) (a a' : Array Value), PW β l l' → PW β a.toList a'.toList →
    PW β ((l.zipIdx k).foldl (fun cs (p : Value × Nat) => cs.setIfInBounds (off + p.2) p.1) a).toList ((l'.zipIdx k).foldl (fun cs (p : Value × Nat) => cs.setIfInBounds (off + p.2) p.1) a').toList
  | [], l', k, a, a', h, ha => by rw [h.nil_left]; exact ha
  | v :: l, l', k, a, a', h, ha => by
    obtain ⟨v', r', rfl, hv, hr⟩ := h.cons_left
    simp only [List.zipIdx_cons, List.foldl_cons]
    exact PW.foldSet off l r' (k + 1) _ _ hr (ha.setIf hv _)
theorem fill_ok [Env] (place : Nat → Option (Nat × Nat)) : ∀ (l l' : List (Nat × Value)) (a a' : Array Value) (out : Array Value), l.map (·.1) = l'.map (·.1) → PW β (l.map (·.2)) (l'.map (·.2)) → PW β a.toList a'.toList → Instr.fill place a l = some out →
    ∃ out', Instr.fill place a' l' = some out' ∧ PW β out.toList out'.toList
  | [], l', a, a', out, h1, h2, ha, h => by
    have : l' = [] := by simpa using h1.symm
    subst this
    simp only [Instr.fill, Option.some.injEq] at h; subst h
    exact ⟨a', rfl, ha⟩
  | (i, v) :: l, l', a, a', out, h1, h2, ha, h => by
    cases l' with
    | nil => simp at h1
    | cons p l' =>
      obtain ⟨i', v'⟩ := p
      simp only [List.map_cons, List.cons.injEq] at h1
      obtain ⟨rfl, h1⟩ := h1
      simp only [List.map_cons] at h2
      obtain ⟨hv, h2⟩ := h2.tail
      simp only [Instr.fill] at h ⊢
      have hc := hv.cells
      have e1 : v'.cells.size = v.cells.size := by have := hc.1; simpa using this.symm
      have e2 : a'.size = a.size := by have := ha.1; simpa using this.symm
      rw [e1, e2]
      split at h
      · cases h
      · rename_i off size hp
        split at h
        · cases h
        · rename_i hcond
          rw [if_neg hcond]
          refine fill_ok place l l' _ _ out h1 h2 ?_ h
          have := PW.foldSet (β := β) off v.cells.toList v'.cells.toList 0 a a' hc ha
          rw [← Array.foldl_toList, ← Array.foldl_toList, Array.toList_zipIdx, Array.toList_zipIdx]
          exact this
def placesOf (P : Program) : List Field → Option (List (Nat × Nat))
  | [] => some []
  | f :: r => match szOf P f.type with
    | some n => match placesOf P r with
      | some l => some ((f.offset, n) :: l)
      | none => none
    | none => none
theorem run_mapM_places [Env] : ∀ (fs : List Field) (l : List (Nat × Nat)), placesOf P fs = some l → ∀ w, (fs.mapM (m := Sem) fun f => do pure (f.offset, ← sizeOf f.type)).run P w = .ok l w
  | [], l, h, w => by simp only [placesOf, Option.some.injEq] at h; subst h; simp
  | f :: r, l, h, w => by
    simp only [placesOf] at h
    split at h
    · rename_i n hn
      split at h
      · rename_i l' hl'
        simp only [Option.some.injEq] at h; subst h
        have ih := run_mapM_places r l' hl' w
        have hsz := run_sizeOf (P := P) hn w
        rw [List.mapM_cons]
        simp only [Sem.run_bind, hsz, Result.andThen_ok, Sem.run_pure, ih]
      · cases h
    · cases h
theorem getElem?_toArray' (l : List (Nat × Nat)) : (fun i : Nat => l.toArray[i]?) = (fun i : Nat => l[i]?) := by funext i; simp
def buildOf (P : Program) (t : TypeId) (parts : List (Nat × Value)) : Option Value :=
  match (P.info? t).bind (·.zero) with
  | some z => match flat z with
    | true => match P.underlying t with
      | some (.struct fs) => match placesOf P fs.toList with
        | some l => match Instr.fill (fun i => l[i]?) z.cells parts with
          | some cells => some (.agg cells)
          | none => none
        | none => none
      | some (.array _ elem) => match szOf P elem with
        | some size => match Instr.fill (fun i => some (i * size, size)) z.cells parts with
          | some cells => some (.agg cells)
          | none => none
        | none => none
      | _ => none
    | false => none
  | none => none
theorem buildOf_ok [Env] {t : TypeId} {parts parts' : Array (Nat × Value)} (h1 : parts.toList.map (·.1) = parts'.toList.map (·.1)) (h2 : PW β (parts.toList.map (·.2)) (parts'.toList.map (·.2))) :
    RunS P N β (ofOpt (buildOf P t parts.toList)) (Instr.build t parts') := by
  refine RunS.opt fun v hv => ?_
  unfold buildOf at hv
  split at hv
  · rename_i z hz
    split at hv
    · rename_i hfl
      have hzz := (VR.of_flat (β := β) 6 z hfl).cells
      split at hv
      · rename_i fs hu
        split at hv
        · rename_i l hl
          split at hv
          · rename_i cells hcells
            simp only [Option.some.injEq] at hv; subst hv
            obtain ⟨out', h3, h4⟩ := fill_ok (β := β) _ _ _ _ _ _ h1 h2 hzz hcells
            have h5 := PW.arr h4
            refine ⟨_, .agg h5.1 h5.2, fun w => ?_⟩
            have hm := run_mapM_places (P := P) _ _ hl w
            have hm2 : (fs.mapM (m := Sem) fun f => do pure (f.offset, ← sizeOf f.type)).run P w = .ok l.toArray w := by
              rw [Array.mapM_eq_mapM_toList]
              simp only [map_eq_pure_bind, Sem.run_bind, hm, Result.andThen_ok, Sem.run_pure]
            simp only [Instr.build, Sem.run_bind, run_zero hz, Result.andThen_ok, run_underlying hu, hm2, getElem?_toArray', h3, Sem.run_pure]
          · cases hv
        · cases hv
      · rename_i n elem hu
        split at hv
        · rename_i size hn
          split at hv
          · rename_i cells hcells
            simp only [Option.some.injEq] at hv; subst hv
            obtain ⟨out', h3, h4⟩ := fill_ok (β := β) _ _ _ _ _ _ h1 h2 hzz hcells
            have h5 := PW.arr h4
            refine ⟨_, .agg h5.1 h5.2, fun w => ?_⟩
            have hsz := run_sizeOf (P := P) hn w
            simp only [Instr.build, Sem.run_bind, run_zero hz, Result.andThen_ok, run_underlying hu, hsz, h3, Sem.run_pure]
          · cases hv
        · cases hv
      · cases hv
    · cases hv
  · cases hv
/-- A row of zeros: so many cells. -/
def zeros (P : Program) (elem : TypeId) (n : Nat) : Option (List Value) :=
  match n with
  | 0 => some []
  | n + 1 => match (P.info? elem).bind (·.zero) with
    | some z => match flat z with
      | true => some ((List.range (n + 1)).map fun i => z.cells[i % z.cells.size]!)
      | false => none
    | none => none
def buildSliceOf (P : Program) (t : TypeId) (len : Nat) (parts : List (Nat × Value)) : Comp Value :=
  match P.underlying t with
  | some (.slice elem) => match szOf P elem with
    | some size => match Nat.ble (len * size) (2 ^ 24) with
      | true => match zeros P elem (len * size) with
        | some zs => match zs.all flat with
          | true => match Instr.fill (fun i => some (i * size, size)) zs.toArray parts with
            | some cells => evNew (.leaf cells.toList) elem fun i => .slice (some ⟨i, 0, none⟩) len len
            | none => fail
          | false => fail
        | none => fail
      | false => fail
    | none => fail
  | _ => fail
theorem zeros_run {elem : TypeId} {n : Nat} {zs : List Value} (h : zeros P elem n = some zs) : (n = 0 ∧ zs = []) ∨ (n ≠ 0 ∧ ∃ z : Value, (P.info? elem).bind (·.zero) = some z ∧ zs.toArray = (Array.range n).map (z.cells[· % z.cells.size]!)) := by
  cases n with
  | zero =>
    simp only [zeros, Option.some.injEq] at h; subst h
    exact .inl ⟨rfl, rfl⟩
  | succ n =>
    simp only [zeros] at h
    split at h
    · rename_i z hz
      split at h
      · simp only [Option.some.injEq] at h; subst h
        refine .inr ⟨by omega, z, hz, ?_⟩
        apply Array.ext'
        simp
      · cases h
    · cases h
theorem VR.slNew [Env] {β' : Mp} {i : Nat} {I : Im} (h : β' i = some I) (hb : I.base = 0) (l c : Nat) (hl : l ≤ c) : VR β' (.slice (some ⟨i, 0, none⟩) l c) (.slice (some ⟨I.blk, 0, none⟩) l c) :=
  .sl 0 l c c h hl (Nat.le_refl _) (Or.inl rfl) (Or.inl (by rw [hb]))
theorem buildSliceOf_ok [Env] {t : TypeId} {len : Nat} {parts parts' : Array (Nat × Value)} (h1 : parts.toList.map (·.1) = parts'.toList.map (·.1)) (h2 : PW β (parts.toList.map (·.2)) (parts'.toList.map (·.2))) :
    RunS P N β (buildSliceOf P t len parts.toList) (Instr.buildSlice t len parts') := by
  unfold buildSliceOf
  split
  · rename_i elem hu
    split
    · rename_i size hn
      split
      · rename_i hble
        split
        · rename_i zs hz
          split
          · rename_i hfl
            split
            · rename_i cells hcells
              obtain ⟨out', h3, h4⟩ := fill_ok (β := β) _ _ _ _ zs.toArray _ h1 h2 (by simpa using PW.of_flat hfl) hcells
              refine evNew_ok (vs := out'.toList) (k' := fun b => .slice (some ⟨b, 0, none⟩) len len) trivial h4 (fun w => ?_) (fun β' i I hi hb _ _ => VR.slNew hi hb _ _ (Nat.le_refl _))
              have hle : ¬ (len * size > 2 ^ 24) := by have := Nat.le_of_ble_eq_true hble; omega
              have hsz := run_sizeOf (P := P) hn w
              rcases zeros_run (P := P) hz with ⟨h0, rfl⟩ | ⟨h0, z, hz1, hz2⟩
              · have e0 : (Array.range (len * size)) = #[] := by rw [h0]; rfl
                simp only [Instr.buildSlice, Sem.run_bind, run_underlying hu, Result.andThen_ok, hsz, if_neg hle, if_pos h0, e0, Array.map_empty, newRow, newObj, Sem.run_pure]
                simp [h3, Sem.run]
              · rw [hz2] at h3
                simp only [Instr.buildSlice, Sem.run_bind, run_underlying hu, Result.andThen_ok, hsz, if_neg hle, if_neg h0, run_zero hz1, h3, newRow, newObj, Sem.run_pure]
                simp [Sem.run]
            · exact RunS.fail
          · exact RunS.fail
        · exact RunS.fail
      · exact RunS.fail
    · exact RunS.fail
  · exact RunS.fail
end Go.Proofs.Ytdpmjghdmpaehaa.ev
