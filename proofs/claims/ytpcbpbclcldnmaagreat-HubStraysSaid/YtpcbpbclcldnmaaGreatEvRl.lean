/-
  Laws about arguments that are rows of bytes: the small memory begins with them. Conditions: none.
-/
import Derived.Test.YtpcbpbclcldnmaaGreatEvHe
import Derived.Test.YtpcbpbclcldnmaaGreatEvY
namespace Go.Proofs.YtpcbpbclcldnmaaGreat.ev
set_option linter.unusedVariables false
set_option linter.unusedSimpArgs false
open Go.ChangeShapes Go.WideShapes Go.ChangeAt Go.RowKit Go.IntWalk Go.Lib
theorem hasBody_of {k : FuncId} (hf : ((Tryz.prog.funcs[k]?).any fun fn => fn.body.isSome) = true) : hasBody Tryz.prog k := by
  unfold hasBody
  cases hfn : Tryz.prog.funcs[k]? with
  | none => rw [hfn] at hf; cases hf
  | some fn =>
    rw [hfn] at hf
    refine ⟨fn, rfl, noCount' k fn hfn, ?_⟩
    cases hb : fn.body with
    | none => rw [show (some fn).any (fun fn => fn.body.isSome) = fn.body.isSome from rfl, hb] at hf; cases hf
    | some b => rfl
/-- A slice that came in: its cells are the bytes from number a on. -/
structure RowIn (R : Nat → Int) (a : Nat) (w : World) (A : Addr) (n cap : Nat) : Prop where
  le : n ≤ cap
  spot : A.spot = none
  lt : A.block < w.heap.size
  cells : ∀ j, j < n → w.cell? ⟨A.block, A.off + j, none⟩ = some (.int .u8 (R (a + j)))
def rowAo (a q m bt : Nat) : Ao := .row (.sym a q 0 m) bt false
def rowIm (A : Addr) (n cap : Nat) : Im := ⟨A.block, A.off, n, cap - n, 0⟩
theorem rowIn_ob {R : Nat → Int} {hR : ∀ j, 0 ≤ R j ∧ R j ≤ 255} {l : List Value} {a : Nat} {w : World} {A : Addr} {n cap q m : Nat} {β : Mp} (h : RowIn R a w A n cap) (ha : 1048576 ≤ a) (hq : envE l R q = .int .i64 (n : Int)) (hm : m ≤ n) :
    @ObR (envR l R hR) Tryz.prog β w (rowIm A n cap) (rowAo a q m 5) := by
  have hbt : (Tryz.prog.info? 5).map (·.size) = some 1 := by kernel_rfl
  letI : Env := envR l R hR
  have hl : lenS q 0 = n := by rw [lenS_zero]; exact lenOf_eq hq
  refine ⟨by show m ≤ lenS q 0; omega, (List.range n).map fun j => .int .u8 (R (a + j)), ⟨by simp [Cs.list, opqs_length, hl], fun j v v' hv hv' => ?_⟩, by simp [Cs.list, opqs_length, hl, rowIm], fun j v hv => ?_, .inl rfl, fun _ => ⟨.inr rfl, .inl hbt⟩, (fun hh => by cases hh), .inl rfl⟩
  · have hj : j < n := by
      have := (List.getElem?_eq_some_iff.1 hv').1
      simpa using this
    rw [Cs.list, hl, opqs_get _ _ _ hj] at hv
    cases hv
    rw [List.getElem?_map, List.getElem?_range hj] at hv'
    cases hv'
    have e : Env.E (a + j) = .int .u8 (R (a + j)) := envE_row l R (a + j) (by omega)
    show VR β _ (.int .u8 (R (a + j)))
    rw [← e]
    exact .opq _ (by rw [e]; rfl) (fun b => by rw [e]; intro hh; cases hh)
  · have hj : j < n := by
      have := (List.getElem?_eq_some_iff.1 hv).1
      simpa using this
    rw [List.getElem?_map, List.getElem?_range hj] at hv
    cases hv
    exact h.cells j hj
theorem rowIn_vr {R : Nat → Int} {hR : ∀ j, 0 ≤ R j ∧ R j ≤ 255} {l : List Value} {a : Nat} {w : World} {A : Addr} {n cap q m i : Nat} {β : Mp} (h : RowIn R a w A n cap) (hq : envE l R q = .int .i64 (n : Int)) (hm : m ≤ n) (hn : n ≤ 2 ^ 40) (hβ : β i = some (rowIm A n cap)) :
    @VR (envR l R hR) β (.slice (some ⟨i, 0, some (q + 1)⟩) m 0) (.slice (some A) n cap) := by
  letI : Env := envR l R hR
  have hl : lenS q 0 = n := by rw [lenS_zero]; exact lenOf_eq hq
  have hA : A = ⟨A.block, A.off + 0, none⟩ := by
    obtain ⟨b, o, s⟩ := A
    have := h.spot
    simp only at this
    subst this; rfl
  have := VR.ssl (β := β) (I := rowIm A n cap) (a' := A) 0 q m 0 cap hβ (by omega) (by rw [hl]; exact h.le) (by rw [hl]; simp [rowIm]) (by rw [lenOf_eq (n := n) hq]; exact hn) ⟨n, hq⟩ (.inl hA) (by simp [rowIm]; have := h.le; omega)
  rwa [hl] at this
/-- .. of which the length is told. -/
theorem rowIn_vrK {R : Nat → Int} {hR : ∀ j, 0 ≤ R j ∧ R j ≤ 255} {l : List Value} {a : Nat} {w : World} {A : Addr} {n cap m i : Nat} {β : Mp} (h : RowIn R a w A n cap) (hm : n = m) (hβ : β i = some (rowIm A n cap)) :
    @VR (envR l R hR) β (.slice (some ⟨i, 0, some 0⟩) m 0) (.slice (some A) n cap) := by
  letI : Env := envR l R hR
  subst hm
  have hA : A = ⟨A.block, A.off + 0, none⟩ := by
    obtain ⟨b, o, s⟩ := A
    have := h.spot
    simp only at this
    subst this; rfl
  exact VR.ksl (β := β) (I := rowIm A n cap) (a' := A) 0 n 0 cap hβ h.le (by simp [rowIm]) (.inl hA)
/-- The bytes of a row that came in, by number. -/
def rowR (a : Nat) (zs : List Int) (j : Nat) : Int := zs.getD (j - a) 0
theorem rowR_bd {a : Nat} {zs : List Int} (h : ∀ n ∈ zs, (Lit.int .u8 n).wf = true) (j : Nat) : 0 ≤ rowR a zs j ∧ rowR a zs j ≤ 255 := by
  unfold rowR
  rw [List.getD_eq_getElem?_getD]
  cases hz : zs[j - a]? with
  | none => exact ⟨by decide, by decide⟩
  | some z => exact u8Bd (h z (List.mem_of_getElem? hz))
theorem isRow_wf {w : World} {a : Option Addr} {len cap : Nat} {zs : List Int} (h : IsRow .u8 w a len cap zs) : ∀ n ∈ zs, (Lit.int .u8 n).wf = true := by
  rcases h with ⟨_, _, _, rfl⟩ | ⟨x, _, _, _, _, _, hw⟩
  · intro n hn; cases hn
  · exact hw
theorem rowIn_of {a : Nat} {w : World} {x : Addr} {len cap : Nat} {zs : List Int} {R : Nat → Int} (h : IsRow .u8 w (some x) len cap zs) (h0 : 0 < len) (hR : ∀ j, j < len → R (a + j) = zs.getD j 0) : RowIn R a w x len cap := by
  rcases h with ⟨hn, _⟩ | ⟨y, hy, hl, hm, hz, hc, hw⟩
  · cases hn
  · cases hy
    have c0 := hc 0 (by omega)
    obtain ⟨b, off, spot⟩ := x
    have hs : spot = none := by simpa [Addr.add] using World.cell?_spot c0
    subst hs
    refine ⟨hl, rfl, World.block_lt_of_cell? w _ (by rw [addr_plus] at c0; exact c0), fun j hj => ?_⟩
    have := hc j (by omega)
    rw [addr_plus] at this
    rw [this, hR j hj]
/-- A slice of nothing that came in. -/
theorem rowNone_vr [Env] {A : Addr} {cap i : Nat} {β : Mp} (hβ : β i = some ⟨A.block, A.off, 0, 0, 1⟩) (hs : A.spot = none ∨ cap = 0) : VR β (.slice (some ⟨i, 0, some 0⟩) 0 0) (.slice (some A) 0 cap) := by
  refine .ksl 0 0 0 cap hβ (Nat.zero_le _) (by simp) ?_
  rcases hs with hs | hs
  · left
    obtain ⟨b, o, s⟩ := A
    simp only at hs
    subst hs; rfl
  · exact .inr hs
theorem isRow_spot {w : World} {x : Addr} {len cap : Nat} {zs : List Int} (h : IsRow .u8 w (some x) len cap zs) : x.spot = none ∨ cap = 0 := by
  rcases h with ⟨hn, _⟩ | ⟨y, hy, hl, hm, hz, hc, hw⟩
  · cases hn
  · cases hy
    rcases Nat.eq_zero_or_pos cap with h | h
    · exact .inr h
    · have c0 := hc 0 (by omega)
      left
      obtain ⟨b, off, spot⟩ := x
      simpa [Addr.add] using World.cell?_spot c0
/-- The small memory with one row, with two. -/
def mem1 (x : Ao) : Tr := .nd (some x) .lf .lf
def mem2 (x y : Ao) : Tr := .nd (some x) (.nd (some y) .lf .lf) .lf
theorem mem1_get (x : Ao) (i : Nat) : Tr.get dep (mem1 x) i = if i = 0 then some x else none := by
  cases i with
  | zero => rfl
  | succ i =>
    rw [if_neg (by omega)]
    show cond (Nat.beq (i % 2) 0) (Tr.get 23 .lf (i / 2)) (Tr.get 23 .lf (i / 2)) = none
    rw [Tr.get_lf]; cases Nat.beq (i % 2) 0 <;> rfl
theorem mem2_get (x y : Ao) (i : Nat) : Tr.get dep (mem2 x y) i = if i = 0 then some x else if i = 1 then some y else none := by
  cases i with
  | zero => rfl
  | succ i =>
    rw [if_neg (by omega)]
    show cond (Nat.beq (i % 2) 0) (Tr.get 23 (.nd (some y) .lf .lf) (i / 2)) (Tr.get 23 .lf (i / 2)) = _
    rw [Tr.get_lf]
    cases i with
    | zero => rfl
    | succ i =>
      rw [if_neg (by omega)]
      cases hb : Nat.beq ((i + 1) % 2) 0 with
      | false => rfl
      | true =>
        have hb := Nat.eq_of_beq_eq_true hb
        obtain ⟨k, hk⟩ : ∃ k, (i + 1) / 2 = k + 1 := ⟨(i + 1) / 2 - 1, by omega⟩
        rw [hk]
        show cond (Nat.beq (k % 2) 0) (Tr.get 22 .lf (k / 2)) (Tr.get 22 .lf (k / 2)) = none
        rw [Tr.get_lf]; cases Nat.beq (k % 2) 0 <;> rfl
def mp1 (I : Im) : Mp := fun i => match i with
  | 0 => some I
  | _ => none
def mp2 (I J : Im) : Mp := fun i => match i with
  | 0 => some I
  | 1 => some J
  | _ => none
theorem sim1 [Env] {P : Program} {N : Nat} {w : World} {x : Ao} {I : Im} (hr : x.ro = true) (hl : I.blk < w.heap.size) (ho : ObR P (mp1 I) w I x) : Sim P N (mp1 I) (mem1 x) w := by
  refine ⟨fun i o hi => ?_, fun i j o o' A B hi hj hA hB hne => ?_⟩
  · rw [mem1_get] at hi
    split at hi
    · rename_i e; subst e; cases hi
      exact ⟨I, rfl, .inl hr, hl, ho⟩
    · cases hi
  · rw [mem1_get] at hi hj
    split at hi
    · split at hj
      · omega
      · cases hj
    · cases hi
theorem sim2 [Env] {P : Program} {N : Nat} {w : World} {x y : Ao} {I J : Im} (hr : x.ro = true) (hl : I.blk < w.heap.size) (ho : ObR P (mp2 I J) w I x) (hr' : y.ro = true) (hl' : J.blk < w.heap.size) (ho' : ObR P (mp2 I J) w J y) : Sim P N (mp2 I J) (mem2 x y) w := by
  refine ⟨fun i o hi => ?_, fun i j o o' A B hi hj hA hB hne => .inr ?_⟩
  · rw [mem2_get] at hi
    split at hi
    · rename_i e; subst e; cases hi
      exact ⟨I, rfl, .inl hr, hl, ho⟩
    · split at hi
      · rename_i e; subst e; cases hi
        exact ⟨J, rfl, .inl hr', hl', ho'⟩
      · cases hi
  · have key : ∀ i o, Tr.get dep (mem2 x y) i = some o → o.ro = true := fun i o hi => by
      rw [mem2_get] at hi
      split at hi
      · cases hi; exact hr
      · split at hi
        · cases hi; exact hr'
        · cases hi
    exact ⟨key i o hi, key j o' hj⟩
/-- THE LAW, from a small memory that is not empty. -/
theorem lawR [Env] {tab : TabF} {sp : SpF} (hsp : SpOK Tryz.prog sp) (htab : TabOK Tryz.prog tab) {f : Nat} {k : FuncId} {args args' : List Value} {b : Bool} {c0 : Nat} {h0 : Tr} {β0 : Mp} {w : World} (h : says (fxCall Tryz.prog tab sp f k args c0 h0) = some b) (hs : Sim Tryz.prog w.heap.size β0 h0 w) (hβ : ∀ i, c0 ≤ i → β0 i = none) (hargs : PW β0 args args') :
    Calls Tryz.prog k args'.toArray w (fun e w' => e = .returned (.bool b) ∧ Only [] w w') := by
  cases he : fxCall Tryz.prog tab sp f k args c0 h0 with
  | none => rw [he] at h; cases h
  | some o =>
    have hr := fxSp_ref (fxCode_ok (P := Tryz.prog) (tab := tab) (sp := sp) f) k args c0 h0 o he
    rw [he] at h
    simp only [says] at h
    split at h
    · rename_i b' ho
      simp only [Option.some.injEq] at h; subst h
      refine (((evCode_ok hsp htab mixed noCount' f).call noCount' htab hsp).run k args args' β0 c0 h0 o w hr hargs hs (Nat.le_refl _) (fun i hi _ => hβ i hi)).mono ?_
      rintro e w' ⟨v', β', rfl, e1, e2, e3, e4⟩
      rw [ho] at e3
      exact ⟨by rw [e3.bool_eq], e4.only⟩
    · cases h
end Go.Proofs.YtpcbpbclcldnmaaGreat.ev
