/-
  Sums of rows of bytes of which the end is not known: by the contracts of the functions that sum, and a table. Conditions: those contracts.
-/
import Derived.Test.YtpcbpbclcldnmaaGreatEvRl
import Derived.Test.YtpcbpbclcldnmaaGreatEvU
namespace Go.Proofs.YtpcbpbclcldnmaaGreat.ev
set_option linter.unusedVariables false
set_option linter.unusedSimpArgs false
open Go.ChangeShapes Go.WideShapes Go.ChangeAt Go.RowKit Go.IntWalk Go.Lib
/-- A row and what it sums up to. -/
structure SEnt where
  sum : Bool
  row : Cs
  r : Value
def findS (s : Bool) (X : Cs) : List SEnt → Option Value
  | [] => none
  | e :: l => match sameB s e.sum && eqCn X e.row with
    | true => some e.r
    | false => findS s X l
theorem findS_ok [Env] {s : Bool} {X : Cs} {v : Value} : ∀ {l : List SEnt}, findS s X l = some v → ∃ e ∈ l, e.sum = s ∧ e.row.list = X.list ∧ e.r = v
  | [], h => by cases h
  | e :: l, h => by
    simp only [findS] at h
    split at h
    · rename_i hb
      simp only [Option.some.injEq] at h
      simp only [Bool.and_eq_true] at hb
      exact ⟨e, List.mem_cons_self .., (sameB_eq hb.1).symm, (eqCn_ok hb.2).symm, h⟩
    · obtain ⟨e', h1, h2⟩ := findS_ok h
      exact ⟨e', List.mem_cons_of_mem _ h1, h2⟩
def spSumS (fl : List (FuncId × Bool)) (l : List SEnt) : SpF := fun k args =>
  match args with
  | [x] => match isSsl x with
    | true => match fnOf k fl with
      | some s => some (bind (contentS x) fun X => gd (Nat.ble (dOf x) (2 ^ 40)) (ofOpt (findS s X l)))
      | none => none
    | false => none
  | _ => none
section
variable [Env]
def SEntOK (e : SEnt) : Prop := Good' e.r ∧ ∀ zs : List Int, e.row.list.map real = zs.map (Value.int .u8) → real e.r = .int .i64 (sumVal e.sum zs)
theorem spSumS_ok {fl : List (FuncId × Bool)} {l : List SEnt} (hf : ∀ p ∈ fl, SumC p.1 p.2) (hl : ∀ e ∈ l, SEntOK e) : SpOK Tryz.prog (spSumS fl l) := by
  have key : ∀ k args m, spSumS fl l k args = some m → ∃ s x, SumC k s ∧ args = [x] ∧ m = bind (contentS x) fun X => gd (Nat.ble (dOf x) (2 ^ 40)) (ofOpt (findS s X l)) := fun k args m hm => by
    unfold spSumS at hm
    split at hm
    · split at hm
      · split at hm
        · rename_i s hs
          simp only [Option.some.injEq] at hm
          exact ⟨s, _, hf (k, s) (fnOf_ok hs), rfl, hm.symm⟩
        · cases hm
      · cases hm
    · cases hm
  refine ⟨fun k args m hm => ?_, fun k args m hm => ?_, fun k args m hm => ?_⟩
  · obtain ⟨s, x, _, _, rfl⟩ := key k args m hm
    exact Local.bind contentS_loc fun _ => Local.gd (Local.ofOpt _)
  · obtain ⟨s, x, hc, _, _⟩ := key k args m hm
    exact bodyOf hc.1
  · obtain ⟨s, x, ⟨_, hc⟩, rfl, rfl⟩ := key k args m hm
    intro N args' β c h o w he hp hs hN hfr
    obtain ⟨x', rfl, hx⟩ := hp.one
    obtain ⟨o1, q1, ho1, hq1, rfl⟩ := bind_some he
    obtain ⟨ec, eh, zs, hcx⟩ := contentS_ok ho1 hx hs
    obtain ⟨hb, hq1⟩ := gd_some hq1
    obtain ⟨v, hv, rfl⟩ := ofOpt_some hq1
    obtain ⟨e, he1, he2, he3, he4⟩ := findS_ok hv
    obtain ⟨g1, g2⟩ := hl e he1
    obtain ⟨j, off, q, l', d, I, a', C, rfl, rfl, hrd, hXl, hq4, _⟩ := hcx.form
    have hz := g2 zs (by rw [he3]; exact hcx.list)
    rw [he4, he2] at hz
    rw [he4] at g1
    refine (hc w _ _ C zs hrd (lenS_big hq4 (Nat.le_of_ble_eq_true hb))).mono ?_
    rintro e w' ⟨rfl, m, rfl⟩
    refine ⟨_, β, rfl, ?_, ?_, ?_, Keep.drewN _ _⟩
    · simp only [ec]; exact Ext.refl _ _ _
    · simp only [eh]; exact hs.drewN m
    · rw [← hz]; exact g1.vr
end
/-- The bytes from number a on, n of them. -/
def rowL (R : Nat → Int) (a n : Nat) : List Int := (List.range n).map fun j => R (a + j)
theorem rowL_bd {R : Nat → Int} (hR : ∀ j, 0 ≤ R j ∧ R j ≤ 255) (a n : Nat) : ∀ z ∈ rowL R a n, 0 ≤ z ∧ z ≤ 255 := fun z hz => by
  obtain ⟨j, _, rfl⟩ := List.mem_map.1 hz
  exact hR _
theorem bNil : ∀ z ∈ ([] : List Int), 0 ≤ z ∧ z ≤ 255 := fun z h => by cases h
theorem bCons {x : Int} {l : List Int} (h : 0 ≤ x ∧ x ≤ 255) (k : ∀ z ∈ l, 0 ≤ z ∧ z ≤ 255) : ∀ z ∈ x :: l, 0 ≤ z ∧ z ≤ 255 := fun z hz => by
  rcases List.mem_cons.1 hz with rfl | hz
  · exact h
  · exact k z hz
theorem bApp {l m : List Int} (h : ∀ z ∈ l, 0 ≤ z ∧ z ≤ 255) (k : ∀ z ∈ m, 0 ≤ z ∧ z ≤ 255) : ∀ z ∈ l ++ m, 0 ≤ z ∧ z ≤ 255 := fun z hz => by
  rcases List.mem_append.1 hz with hz | hz
  · exact h z hz
  · exact k z hz
theorem sym_row {l : List Value} {R : Nat → Int} {hR : ∀ j, 0 ≤ R j ∧ R j ≤ 255} {a q m n : Nat} (ha : 1048576 ≤ a) (hq : envE l R q = .int .i64 (n : Int)) {zs : List Int} (hz : (@Cs.list (envR l R hR) (.sym a q 0 m)).map (@real (envR l R hR)) = zs.map (Value.int .u8)) : zs = rowL R a n := by
  letI : Env := envR l R hR
  have hl : lenS q 0 = n := by rw [lenS_zero]; exact lenOf_eq hq
  simp only [Cs.list, hl] at hz
  apply List.ext_getElem?
  intro k
  have h2 := congrArg (fun l => l[k]?) hz
  simp only [List.getElem?_map] at h2
  by_cases hk : k < n
  · rw [opqs_get _ _ _ hk] at h2
    unfold rowL
    rw [List.getElem?_map, List.getElem?_range hk]
    have he : real (.chan (some (a + k))) = .int .u8 (R (a + k)) := envE_row l R (a + k) (by omega)
    simp only [Option.map_some, he] at h2
    cases hzk : zs[k]? with
    | none => rw [hzk] at h2; cases h2
    | some z => rw [hzk] at h2; simp only [Option.map_some, Option.some.injEq, Value.int.injEq, true_and] at h2; rw [← h2]; rfl
  · have h3 : zs.length = n := by
      have := congrArg List.length hz
      simpa [opqs_length] using this.symm
    rw [List.getElem?_eq_none (by omega), List.getElem?_eq_none (by simp [rowL]; omega)]
theorem sEnt_sym {l : List Value} {R : Nat → Int} {hR : ∀ j, 0 ≤ R j ∧ R j ≤ 255} {s : Bool} {a q m n j : Nat} (ha : 1048576 ≤ a) (hq : envE l R q = .int .i64 (n : Int)) (hj : envE l R j = .int .i64 (sumVal s (rowL R a n))) : @SEntOK (envR l R hR) ⟨s, .sym a q 0 m, .chan (some j)⟩ := by
  letI : Env := envR l R hR
  refine ⟨.inr (.inl ⟨j, rfl, .i64, _, hj⟩), fun zs hz => ?_⟩
  rw [sym_row ha hq hz]
  exact hj
/-- A head that is told and a row behind it. -/
theorem sEnt_cat {l : List Value} {R : Nat → Int} {hR : ∀ j, 0 ≤ R j ∧ R j ≤ 255} {s : Bool} {k a q m n j : Nat} {ys : List Value} {bs : List Int} (ha : 1048576 ≤ a) (hq : envE l R q = .int .i64 (n : Int)) (hys : ys.map (@real (envR l R hR)) = bs.map (Value.int .u8)) (hj : envE l R j = .int .i64 (sumVal s (bs ++ rowL R a n))) : @SEntOK (envR l R hR) ⟨s, .cat k (.leaf ys) (.sym a q 0 m), .chan (some j)⟩ := by
  letI : Env := envR l R hR
  refine ⟨.inr (.inl ⟨j, rfl, .i64, _, hj⟩), fun zs hz => ?_⟩
  have hz2 : zs.map (Value.int .u8) = bs.map (Value.int .u8) ++ (@Cs.list (envR l R hR) (.sym a q 0 m)).map (@real (envR l R hR)) := by
    rw [← hz, ← hys]
    simp only [Cs.list, List.map_append]
  obtain ⟨z1, z2, rfl, h1, h2⟩ := List.map_eq_append_iff.1 hz2
  have e1 : z1 = bs := (List.map_inj_right (fun x y h => by cases h; rfl)).1 h1
  rw [e1, sym_row ha hq h2.symm]
  exact hj
end Go.Proofs.YtpcbpbclcldnmaaGreat.ev
