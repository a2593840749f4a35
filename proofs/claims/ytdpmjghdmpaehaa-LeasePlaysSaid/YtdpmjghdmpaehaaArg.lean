/-
  Arguments of plain data, whatever their form: which cells a value of a type has (integers, bools, texts, slices of such cells), and what the form's reading says of them. Conditions: none but those typed.
-/
import Derived.Test.YtdpmjghdmpaehaaByt
import Derived.SizedLaws
import Derived.Deep.Slices
import Derived.ChangeSame
import Derived.OpenShut
namespace Go.Proofs.Ytdpmjghdmpaehaa
set_option linter.unusedVariables false
set_option linter.unusedSimpArgs false
open Go.ChangeShapes Go.WideShapes Go.ChangeAt Go.RowKit Go.IntWalk Go.Lib Go.Deep
/-- What one cell of plain data is. -/
inductive CK where
  | int (k : IntKind)
  | bool
  | str
  | slice (ks : List CK) (bytes : Nat)
mutual
def CK.holds (w : World) : CK → Value → Prop
  | .int k, v => ∃ n, v = .int k n ∧ (Lit.int k n).wf = true
  | .bool, v => ∃ b, v = .bool b
  | .str, v => ∃ s : ByteArray, v = .string s ∧ s.size ≤ 140737488351232
  | .slice ks bytes, v => ∃ A len cap, v = .slice A len cap ∧ len ≤ cap ∧ cap ≤ maxLen ∧ cap * bytes ≤ 140737488351232 ∧ (A = none → cap = 0) ∧
      ∀ i, i < cap → ∃ a cs, A = some a ∧ cs.length = ks.length ∧ (∀ j, j < ks.length → w.cell? (a.add (i * ks.length + j)) = cs[j]?) ∧ CK.all w ks cs
def CK.all (w : World) : List CK → List Value → Prop
  | [], [] => True
  | k :: ks, v :: vs => CK.holds w k v ∧ CK.all w ks vs
  | [], _ :: _ => False
  | _ :: _, [] => False
end
/-- The cells of the fields of a struct, if they stand one behind the other. -/
def kindsFields (P : Program) (rec : TypeId → Option (List CK)) : Nat → List Field → Option (List CK)
  | _, [] => some []
  | off, f :: r =>
    if f.offset = off then
      match rec f.type with
      | some ks => if ks.length = P.cellsOf f.type then (kindsFields P rec (off + ks.length) r).map (ks ++ ·) else none
      | none => none
    else none
/-- The cells of a value of a type. -/
def kindsOf (P : Program) : Nat → TypeId → Option (List CK)
  | 0, _ => none
  | n + 1, t => match P.underlying t with
    | some .bool => some [.bool]
    | some (.int k) => some [.int k]
    | some .string => some [.str]
    | some (.slice e) => match kindsOf P n e with
      | some ks => if ks.length = P.cellsOf e then some [.slice ks (P.bytesOf e)] else none
      | none => none
    | some (.array m e) => match kindsOf P n e with
      | some ks => if ks.length = P.cellsOf e ∧ P.cellsOf t = m * ks.length then some (List.replicate m ks).flatten else none
      | none => none
    | some (.struct fs) => match kindsFields P (kindsOf P n) 0 fs.toList with
      | some ks => if ks.length = P.cellsOf t then some ks else none
      | none => none
    | _ => none
theorem CK.all_length {w : World} : ∀ {ks : List CK} {cs : List Value}, CK.all w ks cs → cs.length = ks.length
  | [], [], _ => rfl
  | _ :: ks, _ :: vs, h => by
    unfold CK.all at h
    simp [CK.all_length h.2]
  | [], _ :: _, h => by unfold CK.all at h; exact h.elim
  | _ :: _, [], h => by unfold CK.all at h; exact h.elim
theorem CK.all_append {w : World} : ∀ {ks ls : List CK} {cs ds : List Value}, CK.all w ks cs → CK.all w ls ds → CK.all w (ks ++ ls) (cs ++ ds)
  | [], _, [], _, _, h => h
  | _ :: ks, _, _ :: vs, _, h, h' => by
    unfold CK.all at h
    show CK.all w (_ :: (ks ++ _)) (_ :: (vs ++ _))
    unfold CK.all
    exact ⟨h.1, CK.all_append h.2 h'⟩
  | [], _, _ :: _, _, h, _ => by unfold CK.all at h; exact h.elim
  | _ :: _, _, [], _, h, _ => by unfold CK.all at h; exact h.elim
theorem weights_all {H : Type} {P : Program} {e : TypeId} : ∀ {l : List (DataW H)} {d : DataW H}, d ∈ l → ∀ m ∈ d.weights P e, m ∈ DataW.weightsAll P e l
  | x :: r, d, h, m, hm => by
    simp only [DataW.weightsAll, List.mem_append]
    rcases List.mem_cons.1 h with rfl | h
    · exact .inl hm
    · exact .inr (weights_all h m hm)
section
variable {H : Type} {enc : TypeId × Value → H} {P : Program} {w : World} {base : Nat} {held : Bool}
theorem kinds_rows {ks : List CK} : ∀ (m : Nat) (cs : List Value), cs.length = m * ks.length → (∀ i, i < m → CK.all w ks ((cs.drop (i * ks.length)).take ks.length)) → CK.all w (List.replicate m ks).flatten cs
  | 0, cs, hl, _ => by
    have : cs = [] := List.eq_nil_of_length_eq_zero (by simpa using hl)
    subst this
    simp [CK.all]
  | m + 1, cs, hl, h => by
    have h0 := h 0 (by omega)
    simp only [Nat.zero_mul, List.drop_zero] at h0
    have e : cs = cs.take ks.length ++ cs.drop ks.length := (List.take_append_drop _ _).symm
    rw [e, List.replicate_succ, List.flatten_cons]
    refine CK.all_append h0 (kinds_rows m _ (by rw [List.length_drop, hl, Nat.succ_mul]; omega) fun i hi => ?_)
    have := h (i + 1) (by omega)
    rwa [Nat.succ_mul, Nat.add_comm (i * ks.length), ← List.drop_drop] at this
theorem kinds_fields {rec : TypeId → Option (List CK)} {cs : List Value} : ∀ (l : List Field) (off : Nat) (ks : List CK), kindsFields P rec off l = some ks →
    (∀ f ∈ l, ∀ ks', rec f.type = some ks' → CK.all w ks' ((cs.drop f.offset).take (P.cellsOf f.type))) → CK.all w ks ((cs.drop off).take ks.length)
  | [], off, ks, h, _ => by
    simp only [kindsFields, Option.some.injEq] at h
    subst h
    simp [CK.all]
  | f :: r, off, ks, h, hf => by
    simp only [kindsFields] at h
    split at h
    · rename_i ho
      split at h
      · rename_i ks' hr
        split at h
        · rename_i hl
          obtain ⟨ks'', h2, h3⟩ := Option.map_eq_some_iff.1 h
          subst h3
          have h4 := hf f (by simp) ks' hr
          rw [ho, ← hl] at h4
          have h5 := kinds_fields r (off + ks'.length) ks'' h2 (fun g hg => hf g (by simp [hg]))
          have e : (cs.drop off).take (ks' ++ ks'').length = (cs.drop off).take ks'.length ++ (cs.drop (off + ks'.length)).take ks''.length := by
            rw [List.length_append, List.take_add, List.drop_drop]
          rw [e]
          exact CK.all_append h4 h5
        · cases h
      · cases h
    · cases h
theorem weights_each {ts : List TypeId} {ds : List (DataW H)} {j : Nat} {t : TypeId} {d : DataW H} (ht : ts[j]? = some t) (hd : ds[j]? = some d) : ∀ n ∈ d.weights P t, n ∈ DataW.weightsEach P ts ds := DataW.weights_mem_each ht hd
/-- What a reading says of the cells. -/
theorem reads_of_trod : ∀ (n : Nat) (t : TypeId) (ks : List CK) (fuel : Nat) (cs : List Value) (x : DataW H × List MemPlace), kindsOf P n t = some ks →
    DataW.trod enc P w base (fun _ => true) held fuel t cs = some x → (∀ m ∈ x.1.weights P t, m ≤ reachBytes) → CK.all w ks cs := by
  intro n
  induction n with
  | zero => intro t ks fuel cs x hk; cases hk
  | succ n ih =>
    intro t ks fuel cs x hk h hw
    unfold kindsOf at hk
    split at hk
    · rename_i ht
      obtain ⟨b, rfl, _⟩ : ∃ b, cs = [.bool b] ∧ True := by
        cases fuel with
        | zero => simp [DataW.trod] at h
        | succ m =>
          unfold DataW.trod at h
          rw [ht] at h
          split at h <;> simp_all
      injection hk with hk; subst hk
      exact ⟨⟨b, rfl⟩, trivial⟩
    · rename_i k ht
      obtain ⟨v, rfl, _, hv⟩ := DataW.trod_int ht h
      injection hk with hk; subst hk
      exact ⟨⟨v, rfl, hv⟩, trivial⟩
    · rename_i ht
      obtain ⟨s, rfl, hs⟩ : ∃ s : ByteArray, cs = [.string s] ∧ x.1 = .lit (.string s.data.toList) := by
        cases fuel with
        | zero => simp [DataW.trod] at h
        | succ m =>
          unfold DataW.trod at h
          rw [ht] at h
          split at h <;> simp_all
          rw [← h.2]
      injection hk with hk; subst hk
      refine ⟨⟨s, rfl, ?_⟩, trivial⟩
      have := hw s.data.toList.length (by rw [hs]; simp [DataW.weights])
      simpa [reachBytes] using this
    · rename_i e ht
      split at hk
      · rename_i ks' hks
        split at hk
        · rename_i hl
          injection hk with hk; subst hk
          rcases open_slice ht h with ⟨rfl, _⟩ | ⟨a, len, cap, m, n', D, Pl, rfl, hb, hle, hm, hmm, hx, hi⟩
          · exact ⟨⟨none, 0, 0, rfl, by omega, by unfold maxLen; omega, by omega, fun _ => rfl, fun i hi => absurd hi (by omega)⟩, trivial⟩
          · have hmc : m = cap := by simpa using hmm
            subst hmc
            have hx1 : x.1 = .slice ((List.range len).map D) ((List.range (m - len)).map fun j => D (len + j)) := by rw [hx]
            rw [hx1] at hw
            simp only [DataW.weights, ht] at hw
            refine ⟨⟨some a, len, m, rfl, hle, hm, ?_, by simp, fun i him => ?_⟩, trivial⟩
            · have := hw _ (List.mem_cons_self ..)
              simp only [List.length_map, List.length_range] at this
              rw [show len + (m - len) = m from by omega] at this
              exact this
            · obtain ⟨cs', h1, h2⟩ := hi i him
              obtain ⟨_, hlen, hcell⟩ := World.cells?_some h1
              refine ⟨a, cs', rfl, by omega, fun j hj => ?_, ?_⟩
              · have := hcell j (by omega)
                rw [Deep.add_add] at this
                rw [hl]
                exact this
              · refine ih e ks' n' cs' _ hks h2 (fun q hq => hw q ?_)
                simp only [List.mem_cons, List.mem_append]
                right
                by_cases hil : i < len
                · exact .inl (weights_all (List.mem_map.2 ⟨i, List.mem_range.2 hil, rfl⟩) q hq)
                · exact .inr (weights_all (List.mem_map.2 ⟨i - len, List.mem_range.2 (by omega), by rw [show len + (i - len) = i from by omega]⟩) q hq)
        · cases hk
      · cases hk
    · rename_i m e ht
      split at hk
      · rename_i ks' hks
        split at hk
        · rename_i hl
          injection hk with hk; subst hk
          obtain ⟨xs, n', _, hx, hlen, hxl, hi⟩ := DataW.trod_array ht h
          refine kinds_rows m cs (by rw [hlen, hl.2]) fun i him => ?_
          have h1 := hi i him
          rw [← hl.1] at h1
          have hil : i < xs.length := by omega
          rw [List.getElem?_eq_getElem hil] at h1
          refine ih e ks' n' _ _ hks h1 (fun q hq => hw q ?_)
          rw [hx]
          simp only [DataW.weights, ht]
          exact weights_all (List.mem_map.2 ⟨_, List.getElem_mem hil, rfl⟩) q hq
        · cases hk
      · cases hk
    · rename_i fs ht
      split at hk
      · rename_i ks' hks
        split at hk
        · rename_i hl
          injection hk with hk; subst hk
          obtain ⟨xs, n', _, hx, hlen, hxl, hi⟩ := DataW.trod_struct ht h
          have key := kinds_fields (w := w) (cs := cs) fs.toList 0 ks' hks (fun f hf ks'' hk'' => by
            obtain ⟨i, hi1⟩ := List.mem_iff_getElem?.1 hf
            have hfi : fs[i]? = some f := by simpa using hi1
            have h1 := hi i f hfi
            have hil : i < xs.length := by rw [hxl]; exact (Array.getElem?_eq_some_iff.1 hfi).1
            rw [List.getElem?_eq_getElem hil] at h1
            refine ih f.type ks'' n' _ _ hk'' h1 (fun q hq => hw q ?_)
            rw [hx]
            simp only [DataW.weights, ht]
            exact DataW.weights_mem_each (j := i) (t := f.type) (by simp [hfi]) (by simp [List.getElem?_map, List.getElem?_eq_getElem hil]) q hq)
          rwa [List.drop_zero, List.take_of_length_le (by rw [hlen, hl]; omega)] at key
        · cases hk
      · cases hk
    · cases hk
/-- An argument's value: its cells. -/
theorem arg_kinds {ts : List TypeId} {ds : List (DataW H)} (hz : (DataW.weightsEach P ts ds).all (· ≤ reachBytes) = true) {j : Nat} {t : TypeId} {d : DataW H} (ht : ts[j]? = some t) (hd : ds[j]? = some d) (n : Nat) {ks : List CK} (hk : kindsOf P n t = some ks) {v : Value} {ps : List MemPlace}
    (h : DataW.Trod enc P w base (fun _ => true) held t v d ps) : CK.all w ks v.cells.toList := by
  obtain ⟨fuel, h⟩ := h
  refine reads_of_trod n t ks fuel _ _ hk h (fun m hm => ?_)
  have := List.all_eq_true.1 hz _ (DataW.weights_mem_each ht hd m hm)
  simpa using this
end
/-- A cell that is a slice of integers. -/
theorem CK.ints {w : World} {k : IntKind} {bytes : Nat} {v : Value} (h : CK.holds w (.slice [.int k] bytes) v) : ∃ A len cap zs, v = .slice A len cap ∧ IsRow k w A len cap zs ∧ cap * bytes ≤ 140737488351232 := by
  unfold CK.holds at h
  obtain ⟨A, len, cap, rfl, hl, hm, hb, hn, hi⟩ := h
  rcases A with _ | a
  · have : cap = 0 := hn rfl
    subst this
    obtain rfl : len = 0 := by omega
    exact ⟨none, 0, 0, [], rfl, .inl ⟨rfl, rfl, rfl, rfl⟩, hb⟩
  · have each : ∀ i, ∃ z : Int, i < cap → w.cell? (a.add i) = some (.int k z) ∧ (Lit.int k z).wf = true := by
      intro i
      by_cases hic : i < cap
      · obtain ⟨a', cs, e, hcl, hc, hall⟩ := hi i hic
        injection e with e; subst e
        have h0 := hc 0 (by simp)
        match cs, hcl, hall with
        | [c], _, hall =>
          unfold CK.all at hall
          obtain ⟨hh, _⟩ := hall
          unfold CK.holds at hh
          obtain ⟨z, rfl, hz⟩ := hh
          exact ⟨z, fun _ => ⟨by simpa using h0, hz⟩⟩
      · exact ⟨0, fun h => absurd h hic⟩
    have hV := fun i => Classical.choose_spec (each i)
    refine ⟨some a, len, cap, (List.range cap).map fun i => Classical.choose (each i), rfl, .inr ⟨a, rfl, hl, hm, by simp, fun i hi' => ?_, fun z hz => ?_⟩, hb⟩
    · have hi2 : i < cap := by simpa using hi'
      rw [(hV i hi2).1]
      simp [List.getD_eq_getElem?_getD, hi2]
    · obtain ⟨i, hi', rfl⟩ := List.mem_map.1 hz
      exact (hV i (List.mem_range.1 hi')).2
theorem CK.all_cons {w : World} {k : CK} {ks : List CK} {l : List Value} (h : CK.all w (k :: ks) l) : ∃ v r, l = v :: r ∧ CK.holds w k v ∧ CK.all w ks r := by
  cases l with
  | nil => unfold CK.all at h; exact h.elim
  | cons v r => unfold CK.all at h; exact ⟨v, r, rfl, h.1, h.2⟩
theorem CK.all_nil {w : World} {l : List Value} (h : CK.all w [] l) : l = [] := by
  cases l with
  | nil => rfl
  | cons v r => unfold CK.all at h; exact h.elim
theorem CK.all_one {w : World} {k : CK} {v : Value} (h : CK.all w [k] [v]) : CK.holds w k v := by
  unfold CK.all at h; exact h.1
theorem CK.int_of {w : World} {k : IntKind} {v : Value} (h : CK.holds w (.int k) v) : ∃ n, v = .int k n ∧ (Lit.int k n).wf = true := by
  unfold CK.holds at h; exact h
theorem CK.bool_of {w : World} {v : Value} (h : CK.holds w .bool v) : ∃ b, v = .bool b := by
  unfold CK.holds at h; exact h
theorem CK.str_of {w : World} {v : Value} (h : CK.holds w .str v) : ∃ s : ByteArray, v = .string s ∧ s.size ≤ 140737488351232 := by
  unfold CK.holds at h; exact h
theorem CK.slice_of {w : World} {ks : List CK} {b : Nat} {v : Value} (h : CK.holds w (.slice ks b) v) : ∃ A len cap, v = .slice A len cap := by
  unfold CK.holds at h
  obtain ⟨A, len, cap, h, _⟩ := h
  exact ⟨A, len, cap, h⟩
theorem IsRow.none_cap {k : IntKind} {w : World} {A : Option Addr} {len cap : Nat} {zs : List Int} (h : IsRow k w A len cap zs) : A = none → cap = 0 := by
  intro e
  rcases h with ⟨_, _, h, _⟩ | ⟨x, h, _⟩
  · exact h
  · rw [e] at h; cases h
theorem okWide_array {P : Program} {w : World} {r : Reach} {base : Nat} {t : TypeId} {v : Value} {n : Nat} {e : TypeId} (ht : P.underlying t = some (.array n e)) (h : Value.okWide P w r base t v) : ∃ cs, v = .agg cs ∧ cs.size = P.cellsOf t := by
  simp only [Value.okWide, ht] at h
  obtain ⟨cs, h1, h2, _⟩ := h
  exact ⟨cs, h1, h2⟩
end Go.Proofs.Ytdpmjghdmpaehaa
