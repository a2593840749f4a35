/-
  Pointers turned to unsafe.Pointer and back, and a row's bytes taken for a text. Conditions: none.
-/
import Derived.Test.YtdpmjghdmpaehaaEvHt
import Derived.Lib.UnsafeStr
import Derived.Lib.Builder
namespace Go.Proofs.Ytdpmjghdmpaehaa.ev
set_option linter.unusedVariables false
set_option linter.unusedSimpArgs false
variable {P : Program} {N : Nat} {β : Mp}
def toU (P : Program) (t0 : TypeId) (o : Nat) : Ao → Bool
  | .row C t g => match szOf P t0 with
    | some (_ + 1) => notSym C && Nat.blt o C.len
    | _ => false
  | _ => false
def ofU (P : Program) (u : TypeId) (o : Nat) : Ao → Bool
  | .row C t false => Nat.beq t u && (Nat.beq o 0 && (notSym C && (match szOf P t with
    | some (n + 2) => Nat.ble (n + 2) C.len
    | _ => false)))
  | _ => false
/-- A conversion, of pointers too. -/
def evConvU (P : Program) (s d : TypeId) (x : Value) : Comp Value :=
  match P.underlying s, P.underlying d with
  | some (.pointer t0), some .unsafePointer => match x with
    | .pointer none => ret (.pointer none)
    | .pointer (some ⟨i, o, none⟩) => bind (rd i) fun ao => gd (toU P t0 o ao) (ret (.pointer (some ⟨i, o, none⟩)))
    | _ => fail
  | some .unsafePointer, some (.pointer u) => match x with
    | .pointer none => ret (.pointer none)
    | .pointer (some ⟨i, o, none⟩) => bind (rd i) fun ao => gd (ofU P u o ao) (ret (.pointer (some ⟨i, o, none⟩)))
    | _ => fail
  | _, _ => evConv P s d x
theorem liesAt_self {e : TypeId} {s : Nat} (hc : P.cellsOf e = s + 1) (count : Nat) (hn : 1 ≤ count) : liesAt P P.depth e count 0 e 1 = true := by
  have hd : P.depth = (2 * (P.types.size + Made.depth) + 1) + 1 := rfl
  rw [hd]
  simp only [liesAt, Bool.or_eq_true]
  left
  rw [hd]
  simp [rowAt, hc, hn, sameLayout]
theorem liesAt_off {e : TypeId} (hc : P.cellsOf e = 1) (count off n : Nat) (hn : off + n ≤ count) : liesAt P P.depth e count off e n = true := by
  have hd : P.depth = (2 * (P.types.size + Made.depth) + 1) + 1 := rfl
  rw [hd]
  simp only [liesAt, Bool.or_eq_true]
  left
  rw [hd]
  simp [rowAt, hc, hn, sameLayout, Nat.mod_one]
theorem cell_lt {w : World} {b : Nat} {C : Array Value} {te : TypeId} {fr : Nat × Nat} {o : Nat} (hC : w.heap[b]? = some (.cells C te fr)) (h : (w.cell? ⟨b, o, none⟩).isSome = true) : o < C.size := by
  rw [cell_of_row _ _ _ _ _ _ hC] at h
  rcases Nat.lt_or_ge o C.size with h2 | h2
  · exact h2
  · rw [Array.getElem?_eq_none h2] at h; cases h
theorem evConvU_ok [Env] {s d : TypeId} {x x' : Value} (hx : VR β x x') : RunS P N β (evConvU P s d x) (Go.convert s d x') := by
  unfold evConvU
  split
  · rename_i t0 hs hd
    split
    · cases hx
      exact RunS.pure .nilp (fun w => by simp [Go.convert, Conv.unsafePointer, Sem.run_bind, run_underlying hs, run_underlying hd])
    · rename_i i o
      refine RunS.rd fun ao c h q w hq hao hs' hN hfr => ?_
      obtain ⟨hb, hq⟩ := gd_some hq
      simp only [ev.ret, Option.some.injEq] at hq; subst hq
      cases hx with
      | @ptr _ I _ hβ =>
        obtain ⟨I', hI, _, hlt, hob⟩ := hs'.obj i ao hao
        rw [hβ] at hI; cases hI
        cases ao with
        | map es clk => cases hb
        | iter q0 p0 => cases hb
        | mapIt q0 q1 q2 q3 => cases hb
        | row C t g =>
          simp only [toU] at hb
          split at hb
          · rename_i n hn
            simp only [Bool.and_eq_true] at hb
            have hns := notSym_ok hb.1
            have ho := blt_true hb.2
            obtain ⟨hok, vs, hpw, hlen, hra, hth, _, _, hfz⟩ := hob
            obtain ⟨C', te, fr, hC, hte, _⟩ := nosym hns hfz
            have hth := nosym hns hth
            have hcl := Cs.len_ok C hok
            have hlt' := cell_lt hC (hth o (by omega)).1
            have hsh : w.shape? I.blk = some (te, C'.size) := by simp [World.shape?, hC]
            obtain ⟨j, hj, hjs⟩ : ∃ j, P.info? t0 = some j ∧ j.size = n + 1 := by
              cases hq : P.info? t0 with
              | none => simp [hq] at hn
              | some j => simp [hq] at hn; exact ⟨j, rfl, hn⟩
            exact Does.val hs' (.ptr o hβ) (Lib.run_to_unsafe w ⟨I.blk, I.base + o, none⟩ hs hd hj (by omega) hsh hlt')
          · cases hb
    · exact RunS.fail
  · rename_i u hs hd
    split
    · cases hx
      exact RunS.pure .nilp (fun w => by simp [Go.convert, Conv.unsafePointer, Sem.run_bind, run_underlying hs, run_underlying hd])
    · rename_i i o
      refine RunS.rd fun ao c h q w hq hao hs' hN hfr => ?_
      obtain ⟨hb, hq⟩ := gd_some hq
      simp only [ev.ret, Option.some.injEq] at hq; subst hq
      cases hx with
      | @ptr _ I _ hβ =>
        obtain ⟨I', hI, _, hlt, hob⟩ := hs'.obj i ao hao
        rw [hβ] at hI; cases hI
        cases ao with
        | map es clk => cases hb
        | iter q0 p0 => cases hb
        | mapIt q0 q1 q2 q3 => cases hb
        | row C t g =>
          cases g with
          | true => cases hb
          | false =>
            simp only [ofU, Bool.and_eq_true] at hb
            obtain ⟨h1, h2, h3, h4⟩ := hb
            have h1 := Nat.of_beq h1
            have h2 := Nat.of_beq h2
            subst h1; subst h2
            split at h4
            · rename_i n hn
              have hle := Nat.le_of_ble_eq_true h4
              have hns := notSym_ok h3
              obtain ⟨hok, vs, hpw, hlen, hra, hth, hg0, _, hfz⟩ := hob
              obtain ⟨C', te, fr, hC, hte, _⟩ := nosym hns hfz
              subst hte
              have hth := nosym hns hth
              have hcl := Cs.len_ok C hok
              have hbase : I.base = 0 := by
                rcases (hg0 rfl).2 with h | h
                · have h := hn.symm.trans h
                  simp at h
                · exact h
              have hlt' := cell_lt hC (hth (n + 1) (by omega)).1
              have hsh : w.shape? I.blk = some (te, C'.size) := by simp [World.shape?, hC]
              obtain ⟨j, hj, hjs⟩ : ∃ j, P.info? te = some j ∧ j.size = n + 2 := by
                cases hq : P.info? te with
                | none => simp [hq] at hn
                | some j => simp [hq] at hn; exact ⟨j, rfl, hn⟩
              have hcc : P.cellsOf te = (n + 1) + 1 := by simp [Program.cellsOf, hj, hjs]
              have hcount : 1 ≤ C'.size / P.cellsOf te := by
                rw [hcc, Nat.le_div_iff_mul_le (by omega)]; omega
              have hl := liesAt_self (P := P) hcc _ hcount
              have e0 : I.base + 0 = 0 := by omega
              refine Does.val hs' (.ptr 0 hβ) (Lib.run_from_unsafe w ⟨I.blk, I.base + 0, none⟩ hs hd hj hsh ?_)
              show liesAt P P.depth te (C'.size / P.cellsOf te) (I.base + 0) te 1 = true
              rw [e0]
              exact hl
            · cases h4
    · exact RunS.fail
  · exact evConv_ok hx
def evSd : Value → Comp Value
  | .slice none _ _ => ret (.pointer none)
  | .slice (some ⟨i, o, none⟩) _ (_ + 1) => ret (.pointer (some ⟨i, o, none⟩))
  | _ => fail
theorem evSd_ok [Env] {ts : Array TypeId} {ty : TypeId} {x x' : Value} (hx : VR β x x') : RunS P N β (evSd x) (Builtin.unsafeSliceData_ ts ty #[x']) := by
  cases hx with
  | nils l c => exact RunS.pure .nilp (fun w => Lib.run_unsafeSliceData_nil w ts ty l c)
  | @sl i I a' o l c c' hβ h1 h2 h3 h4 =>
    cases c with
    | zero => exact RunS.fail
    | succ c =>
      have ha : a' = ⟨I.blk, I.base + o, none⟩ := by
        rcases h4 with h4 | h4
        · exact h4
        · omega
      subst ha
      exact RunS.pure (.ptr o hβ) (fun w => Lib.run_unsafeSliceData_row w ts ty _ l c' (by omega))
  | _ => exact RunS.fail
def usRow (P : Program) (e : TypeId) (o n : Nat) : Ao → Option Value
  | .row C t g => match Nat.beq t e && (notSym C && (Nat.ble n (2 ^ 40) && (match szOf P t with
    | some 1 => true
    | _ => false))) with
    | true => strOf o n (.row C t g)
    | false => none
  | _ => none
def evUs (P : Program) (pt : TypeId) : Value → Value → Comp Value
  | .pointer none, .int .i64 (.ofNat 0) => ret (.string .empty)
  | .pointer (some ⟨i, o, none⟩), .int .i64 (.ofNat (n + 1)) => match P.underlying pt with
    | some (.pointer e) => bind (rd i) fun ao => bind (ofOpt (usRow P e o (n + 1) ao)) fun s => bind (wr i none) fun _ => ret s
    | _ => fail
  | _, _ => fail
theorem run_unsafeString_at (w : World) (pt it ty e : TypeId) (hp : P.underlying pt = some (.pointer e)) (hc : P.cellsOf e = 1) (b off cells : Nat) (hsh : w.shape? b = some (e, cells)) (l : List UInt8) (h0 : l ≠ []) (hn : off + l.length ≤ cells) (h63 : l.length ≤ 9223372036854775807)
    (hcell : ∀ j x, l[j]? = some x → w.cell? ((⟨b, off, none⟩ : Addr).add j) = some (.int .u8 x.toNat)) :
    (Builtin.unsafeString_ #[pt, it] ty #[.pointer (some ⟨b, off, none⟩), .int .i64 l.length]).run P w = .ok (.string ⟨l.toArray⟩) (w.freeze ⟨b, off, none⟩ l.length) := by
  have hl : l.length ≠ 0 := by simpa using h0
  have hlb := Lib.run_loadBytes (P := P) w l ⟨b, off, none⟩ .empty hcell
  have hlies := liesAt_off (P := P) hc (cells / P.cellsOf e) off l.length (by rw [hc]; simpa using hn)
  have h63' : ¬ (9223372036854775807 : Int) < (l.length : Int) := by omega
  have hdef : Builtin.unsafeString_ #[pt, it] ty #[.pointer (some ⟨b, off, none⟩), .int .i64 l.length] =
      (do
        let n ← asInt (.int .i64 l.length)
        if n < 0 then runtimePanic (.error "unsafe.String: len out of range")
        if n > IntKind.i64.max then unsupported (.unsafePointer "String: a length above the largest int")
        if n = 0 then pure (.string .empty)
        else if ← variablesAt ⟨b, off, none⟩ (← elemOf pt) n.toNat then do
          let s ← loadBytes ⟨b, off, none⟩ .empty n.toNat
          freeze ⟨b, off, none⟩ n.toNat
          pure (.string s)
        else unsupported (.unsafePointer "String: not so many bytes at ptr")) := rfl
  rw [hdef]
  have hmax : IntKind.i64.max = 9223372036854775807 := rfl
  have hneg : ¬ (l.length : Int) < 0 := by omega
  simp [asInt, asIntOf, hmax, h63', hneg, hl, variablesAt, hsh, elemOf, run_underlying hp, hlies, hlb]
theorem evUs_ok [Env] {pt it ty : TypeId} {p p' n n' : Value} (hp : VR β p p') (hn : VR β n n') : RunS P N β (evUs P pt p n) (Builtin.unsafeString_ #[pt, it] ty #[p', n']) := by
  unfold evUs
  split
  · rw [hn.int_eq]
    cases hp
    exact RunS.pure (.str _) (fun w => Lib.run_unsafeString_none w pt it ty none)
  · rename_i i o n
    rw [hn.int_eq]
    split
    rotate_left
    · exact RunS.fail
    rename_i e hu
    refine RunS.rd fun ao c h q w hq hao hs hN hfr => ?_
    refine Does.opt hq fun r q2 hr2 hq2 hc2 => ?_
    obtain ⟨o3, q3, ho3, hq3, rfl⟩ := bind_some hq2
    obtain ⟨h', rfl, hset⟩ := wr_some ho3
    simp only [ev.ret, Option.some.injEq] at hq3; subst hq3
    cases hp with
    | @ptr _ I _ hβ =>
      obtain ⟨I', hI, hN', hlt, hob⟩ := hs.obj i ao hao
      rw [hβ] at hI; cases hI
      cases ao with
      | map es clk => cases hr2
      | iter q0 p0 => cases hr2
      | mapIt q0 q1 q2 q3 => cases hr2
      | row C t g =>
        simp only [usRow] at hr2
        split at hr2
        rotate_left
        · cases hr2
        rename_i hbb
        simp only [Bool.and_eq_true] at hbb
        obtain ⟨b1, b2, b4, b3⟩ := hbb
        have b4 := Nat.le_of_ble_eq_true b4
        have b1 := Nat.of_beq b1
        subst b1
        have hns := notSym_ok b2
        have hsz : szOf P t = some 1 := by
          split at b3
          · assumption
          · cases b3
        obtain ⟨hok, vs, hpw, hlen, hra, hth, _, _, hfz⟩ := hob
        obtain ⟨C', te, fr, hC, hte, _⟩ := nosym hns hfz
        subst hte
        have hth := nosym hns hth
        have hN' := nosym hns hN'
        simp only [strOf] at hr2
        split at hr2
        rotate_left
        · cases hr2
        rename_i hb
        have hb := Nat.of_beq hb
        have hs0 := Cs.sub_ok C _ _ hok hb
        rw [hs0] at hb hr2
        generalize hcs : C.list = cs at hpw hlen hr2 hb
        split at hr2
        rotate_left
        · cases hr2
        rename_i bs hbs
        simp only [Option.some.injEq] at hr2; subst hr2
        have hpp := (hpw.drop o).take (n + 1)
        have hcells := bytesOf_some hbs
        have hflat : ((cs.drop o).take (n + 1)).all flat = true := by
          rw [hcells, List.all_eq_true]; intro v hv
          obtain ⟨b, _, rfl⟩ := List.mem_map.1 hv
          rfl
        have heq : (vs.drop o).take (n + 1) = (cs.drop o).take (n + 1) := by
          apply List.ext_getElem hpp.1.symm
          intro j h1 h2
          rw [List.all_eq_true] at hflat
          exact ((hpp.2 j _ _ (List.getElem?_eq_getElem h2) (List.getElem?_eq_getElem h1)).flat_eq 6 (hflat _ (List.getElem_mem h2))).symm
        have hrg := range_sub (k := o) (n := n + 1) hra
        rw [heq, hcells] at hrg
        have hbl : bs.length = n + 1 := by
          have := hb
          rw [hcells] at this
          simpa using this
        have hon : o + (n + 1) ≤ I.n := by
          rw [List.length_take, List.length_drop, hlen] at hb
          omega
        have hlt' := cell_lt hC (hth (o + n) (by omega)).1
        have hsh : w.shape? I.blk = some (te, C'.size) := by simp [World.shape?, hC]
        have hcc : P.cellsOf te = 1 := by
          have hsz' : (P.info? te).map (·.size) = some 1 := hsz
          unfold Program.cellsOf
          rw [hsz']; rfl
        have hrun := run_unsafeString_at (P := P) w pt it ty te hu hcc I.blk (I.base + o) C'.size hsh bs (by intro e; rw [e] at hbl; simp at hbl) (by rw [hbl]; omega) (by rw [hbl]; omega) (fun j x hj => by
          rw [Addr.add_mid]
          exact hrg j _ (by simp [hj]))
        rw [hbl] at hrun
        have hother : ∀ k, k ≠ I.blk → (w.freeze ⟨I.blk, I.base + o, none⟩ (n + 1)).heap[k]? = w.heap[k]? := fun k hk => by
          unfold World.freeze
          rw [if_neg (by omega)]
          simp [Array.getElem?_modify, Ne.symm hk]
        have hsize : (w.freeze ⟨I.blk, I.base + o, none⟩ (n + 1)).heap.size = w.heap.size := by
          unfold World.freeze
          rw [if_neg (by omega)]
          simp
        have hsim : Sim P N β h' (w.freeze ⟨I.blk, I.base + o, none⟩ (n + 1)) :=
          hs.upd (by rw [hsize]; exact Nat.le_refl _) i none hset (fun _ _ h => h) (fun ob heq => by cases heq) (fun j o' J hj hjo hJ => hother _ (hs.far' hjo hao hJ hβ hj hns))
        refine ⟨_, _, β, hrun, Ext.refl _ _ _, hsim, .str _, ⟨?_, ?_, ?_, by rw [hsize]; exact Nat.le_refl _, fun k hk => hother k (by omega)⟩⟩
        · unfold World.freeze; rw [if_neg (by omega)]
        · unfold World.freeze; rw [if_neg (by omega)]
        · unfold World.freeze; rw [if_neg (by omega)]
  · exact RunS.fail
end Go.Proofs.Ytdpmjghdmpaehaa.ev
