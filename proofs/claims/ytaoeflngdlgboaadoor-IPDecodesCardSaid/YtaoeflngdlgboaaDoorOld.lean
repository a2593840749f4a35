/-
  Appends behind which the old row still reads as it did, and structs read whole where a guard says so. Conditions: none but those typed.
-/
import Derived.Test.YtaoeflngdlgboaaDoorByt
import Derived.Test.YtaoeflngdlgboaaDoorOwn
import Derived.Test.YtaoeflngdlgboaaDoorStc
import Derived.Test.YtaoeflngdlgboaaDoorRga
namespace Go.Proofs.YtaoeflngdlgboaaDoor
set_option linter.unusedVariables false
set_option linter.unusedSimpArgs false
open Go.ChangeShapes Go.WideShapes Go.ChangeAt Go.RowKit Go.IntWalk Go.Lib
/-- An append: the old row still reads as it did. -/
theorem app_old {P : Program} (w : World) {k : IntKind} {e t : TypeId} {bytes : Nat} (E : Elem P t e k bytes) (ty : TypeId) (base g n cap : Nat) (xs : List Int) (hown : Own k e w base (.slice (some ⟨g, 0, none⟩) n cap) xs) (A : Option Addr) (m c : Nat) (l : List Int) (hr : Rd k w A m l) (hc0 : A = none → c = 0)
    (hb : (n + m) * bytes ≤ 140737488355328) (h63 : n + m ≤ maxLen) (hbase : base ≤ w.heap.size) :
    ∃ v' w', (Builtin.append_ #[t, t] ty #[.slice (some ⟨g, 0, none⟩) n cap, .slice A m c]).run P w = .ok v' w' ∧ Own k e w' base v' (xs ++ l) ∧ w.grownBy w' (some g) ∧ Rd k w' (some ⟨g, 0, none⟩) n xs := by
  have hn := hown.len.1
  obtain ⟨v', w', hrun, ho, hg, hblk⟩ := run_app (P := P) w E ty base _ xs hown A m c l hr hc0 (by rw [hn]; exact hb) (by rw [hn]; exact h63) hbase
  refine ⟨v', w', hrun, ho, hg, ?_⟩
  rcases hblk with h | h
  · -- in place
    rcases Nat.eq_zero_or_pos n with h0 | h0
    · subst h0
      obtain rfl : xs = [] := List.eq_nil_of_length_eq_zero hn
      exact Rd.nil _ _ _
    · obtain ⟨g', cap', ev⟩ := ho.some_form (by rw [List.length_append]; omega)
      subst ev
      have hgg : g' = g := by simpa [Value.ownBlock] using h
      subst hgg
      have := ho.rd.take n (by rw [List.length_append]; omega)
      rwa [List.take_append_of_le_length (by omega), List.take_of_length_le (by omega)] at this
  · have hgl := hown.base_le.2
    obtain ⟨i, hi, hz, hs, hby⟩ := info_parts E.info
    have hown1 : w.ownsRow base e 1 (.slice (some ⟨g, 0, none⟩) n cap) n (xs.map (Value.int k)) := by have := hown.1; rwa [hn] at this
    rcases A with _ | ad
    · have hr2 := run_append_owned_none (P := P) w base t ty e i 1 E.ht hi _ _ _ hown1
      rw [hc0 rfl, show m = 0 from by
        rcases Nat.eq_zero_or_pos m with h0 | h0
        · exact h0
        · obtain ⟨b, off, h, _⟩ := hr.cells h0; cases h] at hrun
      rw [hr2] at hrun
      injection hrun with e1 e2
      subst e2
      have := hown.rd
      exact this
    · have hnews : ∀ j u, (l.map (Value.int k))[j]? = some u → w.cell? (ad.add j) = some u := by
        intro j u hu
        have hj : j < l.length := by
          rcases Nat.lt_or_ge j l.length with h | h
          · exact h
          · rw [List.getElem?_eq_none (by simpa using h)] at hu; cases hu
        obtain ⟨b, off, h, hc⟩ := hr.cells (by rw [← hr.len]; omega)
        injection h with h
        subst h
        rw [addr_plus, hc j (by rw [← hr.len]; exact hj)]
        rw [List.getElem?_map, List.getElem?_eq_getElem hj] at hu
        rw [← hu, List.getD_eq_getElem?_getD, List.getElem?_eq_getElem hj]
        rfl
      by_cases hroom : n + m ≤ cap
      · obtain ⟨w2, hr2, _, _⟩ := run_append_fits (P := P) w base t ty e i 1 E.ht hi hs g n cap _ hown1 ad m c (l.map (Value.int k)) (by simp [hr.len]) hnews (by intro u hu; obtain ⟨y, _, rfl⟩ := List.mem_map.1 hu; rfl) hroom
        rw [hr2] at hrun
        injection hrun with e1 e2
        subst e1
        simp [Value.ownBlock] at h
        omega
      · have holds : ∀ j u, (xs.map (Value.int k))[j]? = some u → w.cell? ((⟨g, 0, none⟩ : Addr).add j) = some u := hown1.cells (g := g) rfl
        have h9 : n + m ≤ 9223372036854775807 := by simp only [maxLen] at h63; omega
        have hr2 := run_append_grow (P := P) w t ty e i (.int k 0) E.ht hi hz ⟨g, 0, none⟩ n cap (xs.map (Value.int k)) (by rw [hs]; simp [hn]) holds ad m c (l.map (Value.int k)) (by rw [hs]; simp [hr.len]) hnews (by omega) (by omega) (growslice_fits (by omega) (by rw [hby]; exact hb))
        rw [hr2] at hrun
        injection hrun with e1 e2
        subst e2
        exact (hown.rd.drew).alloc _
theorem wpList_appOld {P : Program} {k : IntKind} {e : TypeId} {w : World} {ops : Array Oper} {rest : List Oper} {o : Oper} {a : Act} {Q : Exit → Act → World → Prop} (hgd : o.guard = none) (s x : Operand) (t : TypeId)
    (ho : o.op = .call { callee := .builtin .append, args := #[s, x], argTypes := #[t, t] }) {bytes : Nat} (E : Elem P t e k bytes) (base g n cap : Nat) (xs : List Int) (hs : a.eval s = .slice (some ⟨g, 0, none⟩) n cap) (hown : Own k e w base (.slice (some ⟨g, 0, none⟩) n cap) xs)
    (A : Option Addr) (m c : Nat) (l : List Int) (hx : a.eval x = .slice A m c) (hr : Rd k w A m l) (hc0 : A = none → c = 0) (hb : (n + m) * bytes ≤ 140737488355328) (h63 : n + m ≤ maxLen) (hbase : base ≤ w.heap.size)
    (h : ∀ v' w', Own k e w' base v' (xs ++ l) → w.grownBy w' (some g) → Rd k w' (some ⟨g, 0, none⟩) n xs → wpList P ops Q rest (a.put o.dst v') w') : wpList P ops Q (o :: rest) a w := by
  refine wpList_plain hgd fun K hK => ?_
  obtain ⟨v', w', hr, h2, h3, h5⟩ := app_old (P := P) w E o.type base g n cap xs hown A m c l hr hc0 hb h63 hbase
  unfold Oper.wp execOp
  simp only [ho, resolve, invoke, builtin, Sem.run_bind, Sem.run_pure, Result.andThen_ok, List.map_toArray, List.map_cons, List.map_nil, hs, hx, hr]
  exact hK _ _ (h v' w' h2 h3 h5)
theorem wp_loadObG {P : Program} {ops : Array Oper} {rest : List Oper} {op : Oper} {a : Act} {w : World} {Q : Exit → Act → World → Prop} {d : TypeDesc} (hw : Region.wanted op (yielded ops a.tmps) = true) (ty : TypeId) (x : Operand) (ho : op.op = .load ty x)
    (g : Nat) (hx : a.eval x = .pointer (some ⟨g, 0, none⟩)) (cs : Array Value) (t : TypeId) (hb : Ob w g t cs)
    (hu : P.underlying ty = some d) (hd : d.isRow = true) (hi : (P.info? ty).map (·.size) = some cs.size)
    (h : wpList P ops Q rest (a.put op.dst (.agg cs)) w) : wpList P ops Q (op :: rest) a w := by
  refine wpList_step fun K hK => ?_
  rw [if_pos hw]
  exact wp_load_mid ty x ho g 0 hx cs.toList d hb.range hu hd (by simpa using hi) (hK _ _ (by simpa using h))
theorem own_cap2 {k : IntKind} {e : TypeId} {w : World} {base : Nat} {v : Value} {l : List Int} {A : Option Addr} {n cap : Nat} (h : Own k e w base v l) (ev : v = .slice A n cap) : A = none → cap = 0 := by
  intro h0
  rcases h.1.2 with ⟨hv, _⟩ | ⟨g', cap', cur, hv, _⟩
  · rw [ev] at hv; injection hv
  · rw [ev, h0] at hv; cases hv
theorem only_mono {S : List Nat} {w w' : World} (h : Only [] w w') : Only S w w' := ⟨h.os, h.tape, h.output, h.size, fun i hi _ => h.block i hi (by simp)⟩
end Go.Proofs.YtaoeflngdlgboaaDoor
