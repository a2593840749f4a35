/-
  copy into a row of bytes that lies in a block of its own, in a region that draws its order. Conditions: none but those typed.
-/
import Derived.Test.YtdpmjghdmpaehaaRows
import Derived.Test.YtdpmjghdmpaehaaRga
import Derived.Laws.CopyOwn
namespace Go.Proofs.Ytdpmjghdmpaehaa
set_option linter.unusedVariables false
set_option linter.unusedSimpArgs false
open Go.ChangeShapes Go.WideShapes Go.ChangeAt Go.RowKit Go.IntWalk Go.Lib
/-- Whatever world comes behind another one. -/
def AnyW (a b : World) : Prop := True
theorem AnyW.any (a b : World) : AnyW a b := trivial
theorem AnyW.refl (a : World) : AnyW a a := trivial
/-- A row of numbers as cells. -/
def rowV (k : IntKind) (z : List Int) : Array Value := (z.map (Value.int k)).toArray
theorem rowV_size (k : IntKind) (z : List Int) : (rowV k z).size = z.length := by simp [rowV]
theorem splice_map (k : IntKind) (z x : List Int) (off : Nat) : splice (z.map (Value.int k)) off (x.map (Value.int k)) = (splice z off x).map (Value.int k) := by
  simp [splice, List.map_take, List.map_drop]
theorem rowV_get (k : IntKind) (z : List Int) (j : Nat) (h : j < z.length) : (rowV k z)[j]? = some (.int k (z.getD j 0)) := by
  simp [rowV, h, List.getD_eq_getElem?_getD]
/-- A part of such a row, as a slice reads it. -/
theorem Ob.part {w : World} {g : Nat} {t : TypeId} {k : IntKind} {z : List Int} (h : Ob w g t (rowV k z)) (hw : ∀ x ∈ z, (Lit.int k x).wf = true) (off n : Nat) (hn : off + n ≤ z.length) : Rd k w (some ⟨g, off, none⟩) n ((z.drop off).take n) := by
  refine ⟨by simp; omega, fun x hx => hw x (List.mem_of_mem_drop (List.mem_of_mem_take hx)), fun h0 => ⟨g, off, rfl, fun j hj => ?_⟩⟩
  rw [h.cell (off + j), rowV_get k z (off + j) (by omega)]
  simp [List.getD_eq_getElem?_getD, List.getElem?_take, hj, List.getElem?_drop]
theorem goInt_eq (n : Nat) : goInt n = .int .i64 (n : Int) := rfl
theorem Only.setRow {S : List Nat} {a w : World} {g : Nat} (h : Only S a w) (hg : g ∈ S ∨ a.heap.size ≤ g) (cs : Array Value) : Only S a (w.setRow g cs) :=
  ⟨h.os, h.tape, h.output, by simpa [World.setRow] using h.size, fun k hk hn => (setRow_other w g k cs (fun e => by subst e; rcases hg with h1 | h1; exact hn h1; omega)).trans (h.block k hk hn)⟩
/-- One copy, in a region. -/
theorem opCopy {P : Program} {k : IntKind} {w : World} {o : Oper} {a : Act} {K : Act → World → Prop} {Q : Exit → Act → World → Prop} (hgd : o.guard = none) (d s : Operand) (dT sT : TypeId)
    (ho : o.op = .call { callee := .builtin .copy, args := #[d, s], argTypes := #[dT, sT] }) (elem : TypeId) (hu : P.underlying dT = some (.slice elem)) (hsz : (P.info? elem).map (·.size) = some 1)
    (dp sp : Option Addr) (dLen dCap sLen sCap : Nat) (hd : a.eval d = .slice dp dLen dCap) (hs : a.eval s = .slice sp sLen sCap)
    (g off : Nat) (z : List Int) (t : TypeId) (hg : Ob w g t (rowV k z)) (x : List Int) (hx : Rd k w sp sLen x) (n : Nat) (hn : n = min sLen dLen)
    (hpos : 0 < n → dp = some ⟨g, off, none⟩) (hfit : off + n ≤ z.length)
    (h : ∀ w', Hid (Ob w' g t (rowV k (splice z off (x.take n)))) → Only [g] w w' → K (a.put o.dst (goInt n)) w') : Oper.wp P o a w K Q := by
  have hxl : (x.take n).length = n := by rw [List.length_take, hx.len]; omega
  unfold Oper.wp
  by_cases h0 : n = 0
  · subst h0
    have hrun := run_copy_none (P := P) w dT sT o.type elem dp sp dLen dCap sLen sCap hu hsz (by show min sLen dLen = 0; omega)
    simp only [execOp, ho, resolve, invoke, builtin, Sem.run_bind, Sem.run_pure, Result.andThen_ok, List.map_toArray, List.map_cons, List.map_nil, hd, hs, hrun]
    refine h w (show Ob _ _ _ _ from ?_) (Only.refl _ _)
    have e : splice z off (x.take 0) = z := by simp [splice]
    rw [e]; exact hg
  · obtain ⟨b', off', rfl, hc⟩ := hx.cells (by omega)
    have hdp := hpos (by omega)
    subst hdp
    have hcs : ((x.take n).map (Value.int k)).length = n := by rw [List.length_map, hxl]
    have hrun := run_copy_row (P := P) w dT sT o.type elem g off dLen dCap ⟨b', off', none⟩ sLen sCap (rowV k z) t ((x.take n).map (Value.int k)) hu hsz hg (by rw [hcs]; exact hn)
      (fun j v hv => by
        have hj : j < n := by
          have := (List.getElem?_eq_some_iff.1 hv).1
          rwa [hcs] at this
        rw [addr_plus, hc j (by omega)]
        rw [List.getElem?_map, List.getElem?_take, if_pos hj, List.getElem?_eq_getElem (by rw [hx.len]; omega)] at hv
        rw [← hv]
        simp [List.getD_eq_getElem?_getD, hx.len, show j < sLen by omega])
      (by rw [hcs, rowV_size]; exact hfit) (by intro v hv; obtain ⟨y, _, rfl⟩ := List.mem_map.1 hv; rfl)
    simp only [execOp, ho, resolve, invoke, builtin, Sem.run_bind, Sem.run_pure, Result.andThen_ok, List.map_toArray, List.map_cons, List.map_nil, hd, hs, hrun, hcs]
    refine h _ (show Ob _ _ _ _ from ?_) ((Only.refl _ _).setRow (.inl (by simp)) _)
    have e : (List.take off (rowV k z).toList ++ (x.take n).map (Value.int k) ++ List.drop (off + n) (rowV k z).toList).toArray = rowV k (splice z off (x.take n)) := by
      unfold rowV
      rw [← splice_map, splice, hcs]
      simp
    rw [e]
    exact setRow_heap w g _ _ t _ hg
theorem Own.of_ob {w : World} {g n base : Nat} {t : TypeId} {k : IntKind} {l : List Int} (h : Ob w g t (rowV k l)) (hb : base ≤ g) (hw : ∀ x ∈ l, (Lit.int k x).wf = true) (hn : l.length = n) (hm : n ≤ maxLen) : Own k t w base (.slice (some ⟨g, 0, none⟩) n n) l := by
  subst hn
  exact ⟨⟨by simp, .inr ⟨g, l.length, rowV k l, rfl, hb, h, Nat.le_refl _, hm, by simp [rowV], by simp [rowV, List.take_of_length_le]⟩⟩, hw⟩
/-- A new row of so many noughts. -/
theorem run_mkB (w : World) (n : Nat) (hn : n ≤ 16777216) : (Instr.makeSlice 28 (.int .i64 (n : Int)) (.int .i64 (n : Int))).run Try.prog w = .ok (.slice (some ⟨w.heap.size, 0, none⟩) n n) (w.alloc (.cells (rowV .u8 (List.replicate n 0)) 5)) := by
  have hi : (Try.prog.info? 5).map (fun i => (i.zero, i.size, i.bytes)) = some (some (.int .u8 0), 1, 1) := by kernel_rfl
  obtain ⟨i, hi, hz, hs, hby⟩ := info_parts hi
  have := run_makeSlice (P := Try.prog) w 28 5 i (.int .u8 0) Try.underlying28 hi hz .i64 .i64 n n (by omega) (by omega) (by rw [hs]; omega) (by rw [hby]; omega) (by omega)
  rw [this]
  have e : madeCells (Value.int .u8 0).cells (((n : Int)).toNat * i.size) = rowV .u8 (List.replicate n 0) := by
    rw [hs, Nat.mul_one, Int.toNat_natCast]
    have := toList_madeCells_one (.int .u8 0) n
    apply Array.toList_inj.1
    show (madeCells #[.int .u8 0] n).toList = _
    rw [this]; simp [rowV]
  rw [e]
  simp
end Go.Proofs.Ytdpmjghdmpaehaa
