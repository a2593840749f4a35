/-
  Sums of bytes that are not looked into, in the small memory: by the contracts of the functions that sum. Conditions: none.
-/
import Derived.Test.YtiiajkfaikeenaaGreatEvS
import Derived.Test.YtiiajkfaikeenaaGreatSum
namespace Go.Proofs.YtiiajkfaikeenaaGreat.ev
set_option maxRecDepth 1000000
set_option linter.unusedVariables false
set_option linter.unusedSimpArgs false
open Go.ChangeShapes Go.WideShapes Go.ChangeAt Go.RowKit Go.IntWalk Go.Lib
/-- A row of cells and what it sums up to: as octet.Sum says it, or as octet.Part. -/
structure PEnt where
  sum : Bool
  cells : List Value
  r : Value
def findPart (s : Bool) (cs : List Value) : List PEnt → Option Value
  | [] => none
  | e :: l => match sameB s e.sum && samesV cs e.cells with
    | true => some e.r
    | false => findPart s cs l
theorem findPart_ok {s : Bool} {cs : List Value} {v : Value} : ∀ {l : List PEnt}, findPart s cs l = some v → ⟨s, cs, v⟩ ∈ l
  | [], h => by cases h
  | e :: l, h => by
    simp only [findPart] at h
    split at h
    · rename_i hb
      simp only [Option.some.injEq] at h; subst h
      simp only [Bool.and_eq_true] at hb
      rw [sameB_eq hb.1, samesV_eq hb.2]
      exact List.mem_cons_self ..
    · exact List.mem_cons_of_mem _ (findPart_ok h)
/-- What the sums come to. -/
def sumVal (s : Bool) (bs : List Int) : Int := match s with
  | true => oct.sumF bs
  | false => oct.F (oct.ws bs)
theorem sumVal_bd (s : Bool) (bs : List Int) (h : ∀ b ∈ bs, 0 ≤ b ∧ b ≤ 255) : 0 ≤ sumVal s bs ∧ sumVal s bs ≤ 65535 := by
  have h1 := oct.F_bd (oct.ws bs) (oct.ws_bd bs h).1
  cases s with
  | true => simp only [sumVal, oct.sumF]; omega
  | false => exact h1
def partRow (s : Bool) (o n : Nat) (l : List PEnt) (ao : Ao) : Option Value :=
  match cutCells o n ao with
  | some cs => match Nat.ble n (2 ^ 40) with
    | true => match bytesOf cs with
      | some bs => some (.int .i64 (sumVal s (bs.map fun b => (b.toNat : Int))))
      | none => findPart s cs l
    | false => none
  | none => none
def fnOf (k : FuncId) : List (FuncId × Bool) → Option Bool
  | [] => none
  | p :: l => match Nat.beq k p.1 with
    | true => some p.2
    | false => fnOf k l
theorem fnOf_ok {k : FuncId} {s : Bool} : ∀ {l : List (FuncId × Bool)}, fnOf k l = some s → (k, s) ∈ l
  | [], h => by cases h
  | p :: l, h => by
    simp only [fnOf] at h
    split at h
    · rename_i hb
      simp only [Option.some.injEq] at h; subst h
      rw [Nat.of_beq hb]
      exact List.mem_cons_self ..
    · exact List.mem_cons_of_mem _ (fnOf_ok h)
def spSum (fl : List (FuncId × Bool)) (l : List PEnt) : SpF := fun k args =>
  match fnOf k fl with
  | some s => match args with
    | [.slice (some ⟨i, o, none⟩) n c] => some (bind (rd i) fun ao => ofOpt (partRow s o n l ao))
    | _ => none
  | none => none
def SumC (k : FuncId) (s : Bool) : Prop := ((Tryz.prog.funcs[k]?).any fun fn => fn.body.isSome) = true ∧ ∀ (w : World) (A : Option Addr) (n c : Nat) (l : List Int), Rd .u8 w A n l → n ≤ 140737488355328 →
  Calls Tryz.prog k #[.slice A n c] w fun e w' => e = .returned (.int .i64 (sumVal s l)) ∧ ∃ m, w' = w.drewN m
theorem bodyOf {k : FuncId} (hf : ((Tryz.prog.funcs[k]?).any fun fn => fn.body.isSome) = true) : ∃ fn, Tryz.prog.funcs[k]? = some fn ∧ (fn.name == "runtime.NumGoroutine") = false ∧ fn.body.isNone = false := by
  cases hfn : Tryz.prog.funcs[k]? with
  | none => rw [hfn] at hf; cases hf
  | some fn =>
    rw [hfn] at hf
    refine ⟨fn, rfl, noCount' k fn hfn, ?_⟩
    cases hb : fn.body with
    | none => rw [show (some fn).any (fun fn => fn.body.isSome) = fn.body.isSome from rfl, hb] at hf; cases hf
    | some b => rfl
section
variable [Env]
def PEntOK (e : PEnt) : Prop := ∃ bs : List Int, e.cells.map real = bs.map (Value.int .u8) ∧ (∀ b ∈ bs, 0 ≤ b ∧ b ≤ 255) ∧ (∀ v ∈ e.cells, Num (real v)) ∧ Good' e.r ∧ real e.r = .int .i64 (sumVal e.sum bs)
theorem spSum_ok {fl : List (FuncId × Bool)} {l : List PEnt} (hf : ∀ p ∈ fl, SumC p.1 p.2) (hl : ∀ e ∈ l, PEntOK e) : SpOK Tryz.prog (spSum fl l) := by
  have key : ∀ k args m, spSum fl l k args = some m → ∃ s i o n c, SumC k s ∧ args = [.slice (some ⟨i, o, none⟩) n c] ∧ m = bind (rd i) fun ao => ofOpt (partRow s o n l ao) := fun k args m hm => by
    unfold spSum at hm
    split at hm
    · rename_i s hs
      split at hm
      · simp only [Option.some.injEq] at hm
        exact ⟨s, _, _, _, _, hf _ (fnOf_ok hs), rfl, hm.symm⟩
      · cases hm
    · cases hm
  refine ⟨fun k args m hm => ?_, fun k args m hm => ?_, fun k args m hm => ?_⟩
  · obtain ⟨s, i, o, n, c, _, _, rfl⟩ := key k args m hm
    exact Local.bind (Local.rd _) fun _ => Local.ofOpt _
  · obtain ⟨s, i, o, n, c, hc, _, _⟩ := key k args m hm
    exact bodyOf hc.1
  · obtain ⟨s, i, o, n, c, ⟨_, hc⟩, rfl, rfl⟩ := key k args m hm
    intro N args' β cc hh out w he hp hs hN hfr
    obtain ⟨v', rfl, hv⟩ := hp.one
    obtain ⟨o1, q1, ho1, hq1, rfl⟩ := bind_some he
    simp only [ev.rd] at ho1
    split at ho1
    · rename_i ao hao
      simp only [Option.some.injEq] at ho1; subst ho1
      obtain ⟨r, hr, rfl⟩ := ofOpt_some hq1
      cases hv with
      | @sl _ I a' _ _ _ c' hβ h1 h2 h3 h4 =>
        obtain ⟨I', hI, hN', hlt, hob⟩ := hs.obj i ao hao
        rw [hβ] at hI; cases hI
        cases ao with
        | map es clk => cases hr
        | iter q0 p0 => cases hr
        | mapIt q0 q1 q2 q3 => cases hr
        | row C te g =>
          obtain ⟨hok, vs, hpw, hlen, hra, hth, _, _⟩ := hob
          simp only [partRow, cutCells] at hr
          split at hr
          rotate_left
          · cases hr
          rename_i cs hcs
          split at hcs
          rotate_left
          · cases hcs
          rename_i hb
          have hb := Nat.of_beq hb
          have hs0 := Cs.sub_ok C _ _ hok hb
          rw [hs0] at hb hcs
          simp only [Option.some.injEq] at hcs
          split at hr
          rotate_left
          · cases hr
          rename_i hn
          have hn := Nat.le_of_ble_eq_true hn
          have hpc := (hpw.drop o).take n
          rw [hcs] at hpc hb
          have hrg := range_sub (k := o) (n := n) hra
          -- the bytes
          have main : ∀ bs : List Int, (vs.drop o).take n = bs.map (Value.int .u8) → (∀ b ∈ bs, 0 ≤ b ∧ b ≤ 255) → Rd .u8 w (some a') n bs := fun bs e hbd => by
            have hbl : bs.length = n := by
              have := hpc.1
              rw [e, hb, List.length_map] at this
              exact this.symm
            refine ⟨hbl, fun z hz => (Lit.wf_int_iff .u8 z).2 (hbd z hz), fun hpos => ?_⟩
            have ha : a' = ⟨I.blk, I.base + o, none⟩ := by
              rcases h4 with h4 | h4
              · exact h4
              · omega
            refine ⟨_, _, by rw [ha], fun j hj => ?_⟩
            have := hrg j (.int .u8 (bs.getD j 0)) (by rw [e, List.getElem?_map, List.getElem?_eq_getElem (by omega)]; simp [List.getD_eq_getElem?_getD, List.getElem?_eq_getElem (show j < bs.length by omega)])
            exact this
          have fin : ∀ bs : List Int, (vs.drop o).take n = bs.map (Value.int .u8) → (∀ b ∈ bs, 0 ≤ b ∧ b ≤ 255) → ∀ v, VR β r v → v = .int .i64 (sumVal s bs) →
              Calls Tryz.prog k #[.slice (some a') n c'] w (fun e w' => ∃ v' β', e = .returned v' ∧ Ext cc cc β β' ∧ Sim Tryz.prog N β' hh w' ∧ VR β' r v' ∧ Keep N w w') := fun bs e hbd v hv hve => by
            refine (hc w (some a') n c' bs (main bs e hbd) (by omega)).mono ?_
            rintro ee w' ⟨rfl, m, rfl⟩
            refine ⟨_, β, rfl, Ext.refl _ _ _, hs.heap rfl, by rw [← hve]; exact hv, ⟨rfl, rfl, rfl, Nat.le_refl _, fun _ _ => rfl⟩⟩
          split at hr
          · rename_i bs hbs
            simp only [Option.some.injEq] at hr; subst hr
            have hcells := bytesOf_some hbs
            have hfl : cs.all flat = true := by
              rw [hcells, List.all_eq_true]; intro v hv
              obtain ⟨b, _, rfl⟩ := List.mem_map.1 hv
              rfl
            have heq : (vs.drop o).take n = cs := by
              apply List.ext_getElem hpc.1.symm
              intro j j1 j2
              rw [List.all_eq_true] at hfl
              exact ((hpc.2 j _ _ (List.getElem?_eq_getElem j2) (List.getElem?_eq_getElem j1)).flat_eq 6 (hfl _ (List.getElem_mem j2))).symm
            refine fin (bs.map fun b => (b.toNat : Int)) (by rw [heq, hcells]) (fun b hb' => ?_) _ (.int .i64 _) rfl
            obtain ⟨u, _, rfl⟩ := List.mem_map.1 hb'
            have := u.toNat_lt
            omega
          · obtain ⟨bs, e1, e2, e3, e4, e5⟩ := hl _ (findPart_ok hr)
            simp only at e1 e2 e3 e4 e5
            have heq : (vs.drop o).take n = cs.map real := by
              apply List.ext_getElem (by rw [List.length_map]; exact hpc.1.symm)
              intro j j1 j2
              rw [List.getElem_map]
              have j3 : j < cs.length := by simpa using j2
              exact real_of (hpc.2 j _ _ (List.getElem?_eq_getElem j3) (List.getElem?_eq_getElem j1)) (e3 _ (List.getElem_mem j3))
            exact fin bs (by rw [heq, e1]) e2 _ e4.vr e5
    · cases ho1
end
theorem allPNil [Env] : ∀ e ∈ ([] : List PEnt), PEntOK e := fun e h => by cases h
theorem allPCons [Env] {e : PEnt} {l : List PEnt} (h : PEntOK e) (k : ∀ x ∈ l, PEntOK x) : ∀ x ∈ e :: l, PEntOK x := fun x hx => by
  rcases List.mem_cons.1 hx with rfl | hx
  · exact h
  · exact k x hx
/-- One table of known calls behind another. -/
def spBoth (a b : SpF) : SpF := fun k args => match a k args with
  | some m => some m
  | none => b k args
theorem spBoth_ok [Env] {P : Program} {a b : SpF} (ha : SpOK P a) (hb : SpOK P b) : SpOK P (spBoth a b) := by
  have key : ∀ k args m, spBoth a b k args = some m → a k args = some m ∨ b k args = some m := fun k args m h => by
    unfold spBoth at h
    split at h
    · rename_i m' h1; exact .inl (h1.trans h)
    · exact .inr h
  exact ⟨fun k args m h => (key k args m h).elim (ha.loc k args m) (hb.loc k args m), fun k args m h => (key k args m h).elim (ha.fn k args m) (hb.fn k args m),
    fun k args m h => (key k args m h).elim (ha.run k args m) (hb.run k args m)⟩
end Go.Proofs.YtiiajkfaikeenaaGreat.ev
