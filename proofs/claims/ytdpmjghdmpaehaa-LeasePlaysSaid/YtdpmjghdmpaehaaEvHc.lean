/-
  Rows copied and cleared. Conditions: none.
-/
import Derived.Test.YtdpmjghdmpaehaaEvHm
namespace Go.Proofs.Ytdpmjghdmpaehaa.ev
set_option linter.unusedVariables false
set_option linter.unusedSimpArgs false
variable {P : Program} {N : Nat} {β : Mp}
/-- Cells laid over a row from a place on. -/
def layOver (o : Nat) (xs : List Value) : Ao → Option Ao
  | .row C te g => match Nat.ble (o + xs.length) C.len && ones xs with
    | true => match Cs.put 64 C o xs with
      | some C' => some (.row C' te g)
      | none => none
    | false => none
  | _ => none
theorem layOver_ok [Env] {h h' : Tr} {w : World} (hs : Sim P N β h w) {i o : Nat} {ao x : Ao} {I : Im} {xs ys : List Value} (hi : Tr.get dep h i = some ao) (hβ : β i = some I) (hx : layOver o xs ao = some x) (hxy : PW β xs ys)
    (hset : ∀ j, Tr.get dep h' j = if j = i then some x else Tr.get dep h j) :
    w.there I.blk (I.base + o) ys.length ∧ (∀ u ∈ ys, u.oneCell' = true) ∧ Sim P N β h' (w.setCells I.blk (I.base + o) ys) ∧ Keep N w (w.setCells I.blk (I.base + o) ys) := by
  obtain ⟨I', hI, hN', hlt, hob⟩ := hs.obj i ao hi
  rw [hβ] at hI; cases hI
  cases ao with
  | map es clk => cases hx
  | iter q0 p0 => cases hx
  | mapIt q0 q1 q2 q3 => cases hx
  | row C te g =>
    obtain ⟨hok, vs, hpw, hlen, hra, hth, _, _⟩ := hob
    simp only [layOver] at hx
    split at hx
    · rename_i hb
      split at hx
      rotate_left
      · cases hx
      rename_i C' hput
      simp only [Option.some.injEq] at hx; subst hx
      simp only [Bool.and_eq_true] at hb
      have hb1 := Nat.le_trans (Nat.le_of_ble_eq_true hb.1) (Cs.len_ok C hok)
      have hns := Cs.put_sym hput
      have hth := nosym hns hth
      exact ⟨there_sub hth (by rw [← hxy.1]; omega), hxy.oneCell hb.2, hs.write hi hns hβ hb1 hxy (Cs.put_ok _ _ _ _ _ hok hb1 hput) hset, Keep.setCells _ (nosym hns hN') _ _ _⟩
    · cases hx
def evCopy (P : Program) (t : TypeId) (d x : Value) : Comp Value :=
  match P.underlying t with
  | some (.slice e) => match szOf P e with
    | some sz => match d, lenV x with
      | .slice (some ⟨i, o, none⟩) l c, some n => match Nat.min n l with
        | 0 => ret (.int .i64 0)
        | m + 1 => bind (srcCells sz (m + 1) x) fun vs => bind (rd i) fun ao => bind (ofOpt (layOver o vs ao)) fun r => bind (wr i (some r)) fun _ => ret (.int .i64 ((m + 1 : Nat) : Int))
      | .slice none l c, some n => match Nat.min n l with
        | 0 => ret (.int .i64 0)
        | _ => fail
      | _, _ => fail
    | none => fail
  | _ => fail
theorem storeCells_nil (a : Addr) (w : World) : (storeCells a []).run P w = .ok () w := by simp [storeCells]
theorem firstCells_zero' [Env] {x x' : Value} {n sz : Nat} (hx : VR β x x') (hl : lenV x = some n) (w : World) : (Builtin.firstCells sz 0 x').run P w = .ok #[] w := by
  cases hx with
  | nils l c => exact firstCells_zero w
  | sl o l c c' h h1 h2 h3 h4 => exact firstCells_zero w
  | ksl o l c c' h h1 h2 h3 => exact firstCells_zero w
  | ssl o q l d c' h h1 h2 h3 h4 h5 h6 => exact firstCells_zero w
  | str s =>
    simp only [Builtin.firstCells, Sem.run_pure]
    congr 1
    apply Array.ext'
    simp [ByteArray.extract, ByteArray.copySlice]
    try rfl
  | _ => simp [lenV] at hl
theorem evCopy_ok [Env] {t t2 ty : TypeId} {d d' x x' : Value} (hd : VR β d d') (hx : VR β x x') : RunS P N β (evCopy P t d x) (Builtin.copy_ #[t, t2] ty #[d', x']) := by
  unfold evCopy
  split
  · rename_i e hu
    split
    · rename_i sz hsz
      have hsz' := fun w => run_sizeOf (P := P) hsz w
      split
      · rename_i i o l c n hl
        have hlen := fun w => lenV_ok (P := P) hx hl w
        have hle := lenV_le hl
        split
        · rename_i h0
          have hz := fun w => firstCells_zero' (P := P) (sz := sz) hx hl w
          obtain ⟨a', c', rfl, _⟩ := hd.slice_form trivial
          refine RunS.pure (.int .i64 0) (fun w => ?_)
          cases a' with
          | none => simp [Builtin.copy_, Sem.run_bind, run_underlying hu, hlen, hsz', h0, hz, goInt]
          | some a' => simp [Builtin.copy_, Sem.run_bind, run_underlying hu, hlen, hsz', h0, hz, goInt, storeCells_nil]
        · rename_i m hm
          have hm1 : m + 1 ≤ n := by have := Nat.min_le_left n l; rw [show min n l = m + 1 from hm] at this; exact this
          have hm2 : m + 1 ≤ l := by have := Nat.min_le_right n l; rw [show min n l = m + 1 from hm] at this; exact this
          refine RunS.src (P := P) hx (fun a l2 c2 he => ⟨by have := (hle a l2 c2 he).1; omega, fun ha => by have := (hle a l2 c2 he).2 ha; omega⟩) fun vs us c0 h q w hq hs hN hfr hp hr => ?_
          refine Does.rd hq fun ao q1 hao hq1 hc1 => ?_
          refine Does.opt hq1 fun r q2 hr2 hq2 hc2 => ?_
          obtain ⟨o3, q3, ho3, hq3, rfl⟩ := bind_some hq2
          obtain ⟨h', rfl, hset⟩ := wr_some ho3
          simp only [ev.ret, Option.some.injEq] at hq3; subst hq3
          have hlc := hd.slice_le
          obtain ⟨I, c', hβ, rfl, _, _⟩ := hd.slice_pos (by omega)
          obtain ⟨k1, k2, k3, k4⟩ := layOver_ok (P := P) hs hao hβ hr2 hp hset
          have hst := run_storeCells_cells (P := P) I.blk (I.base + o) us 0 w (fun j hj => by simpa using (k1 j hj).1) (fun j hj => by simpa using (k1 j hj).2) k2
          simp only [Nat.add_zero] at hst
          refine ⟨_, _, β, ?_, Ext.refl _ _ _, k3, .int .i64 _, k4⟩
          have hrw := hr w rfl
          have hm' : Nat.min n l = m + 1 := hm
          simp [Builtin.copy_, Sem.run_bind, run_underlying hu, hlen, hsz', hm', hrw, hst, goInt]
      · rename_i l c n hl
        have hlen := fun w => lenV_ok (P := P) hx hl w
        split
        · rename_i h0
          have hz := fun w => firstCells_zero' (P := P) (sz := sz) hx hl w
          cases hd
          exact RunS.pure (.int .i64 0) (fun w => by simp [Builtin.copy_, Sem.run_bind, run_underlying hu, hlen, hsz', h0, hz, goInt])
        · exact RunS.fail
      · exact RunS.fail
    · exact RunS.fail
  · exact RunS.fail
def evClear (P : Program) (t : TypeId) (x : Value) : Comp Value :=
  match P.underlying t with
  | some (.slice e) => match x with
    | .slice (some ⟨i, o, none⟩) 0 c => ret undef
    | .slice (some ⟨i, o, none⟩) (n + 1) c => match (P.info? e).bind (·.zero) with
      | some z => bind (ofOpt (match (Builtin.zeroCells z.cells (n + 1)).toList.all flat with | true => some () | false => none)) fun _ =>
          bind (rd i) fun ao => bind (ofOpt (layOver o (Builtin.zeroCells z.cells (n + 1)).toList ao)) fun r => bind (wr i (some r)) fun _ => ret undef
      | none => fail
    | _ => fail
  | _ => fail
theorem evClear_ok [Env] {t ty : TypeId} {x x' : Value} (hx : VR β x x') : RunS P N β (evClear P t x) (Builtin.clear_ #[t] ty #[x']) := by
  unfold evClear
  split
  · rename_i e hu
    split
    · rename_i i o c
      obtain ⟨a', c', rfl, _⟩ := hx.slice_form trivial
      exact RunS.pure VR.undef (fun w => by cases a' <;> simp [Builtin.clear_, Sem.run_bind, run_underlying hu, undef])
    · rename_i i o n c
      split
      · rename_i z hz
        intro c0 h q w hq hs hN hfr
        refine Does.opt hq fun u q0 hu0 hq0 hc0 => ?_
        refine Does.rd hq0 fun ao q1 hao hq1 hc1 => ?_
        refine Does.opt hq1 fun r q2 hr2 hq2 hc2 => ?_
        obtain ⟨o3, q3, ho3, hq3, rfl⟩ := bind_some hq2
        obtain ⟨h', rfl, hset⟩ := wr_some ho3
        simp only [ev.ret, Option.some.injEq] at hq3; subst hq3
        have hfl : (Builtin.zeroCells z.cells (n + 1)).toList.all flat = true := by
          split at hu0
          · assumption
          · cases hu0
        have hlc := hx.slice_le
        obtain ⟨I, c', hβ, rfl, _, _⟩ := hx.slice_pos (by omega)
        obtain ⟨k1, k2, k3, k4⟩ := layOver_ok (P := P) hs hao hβ hr2 (PW.of_flat hfl) hset
        have hst := run_storeCells_cells (P := P) I.blk (I.base + o) (Builtin.zeroCells z.cells (n + 1)).toList 0 w (fun j hj => by simpa using (k1 j hj).1) (fun j hj => by simpa using (k1 j hj).2) k2
        simp only [Nat.add_zero] at hst
        refine ⟨undef, _, β, ?_, Ext.refl _ _ _, k3, VR.undef, k4⟩
        simp [Builtin.clear_, Sem.run_bind, run_underlying hu, run_zero hz, hst, undef]
      · exact RunS.fail
    · exact RunS.fail
  · exact RunS.fail
end Go.Proofs.Ytdpmjghdmpaehaa.ev
