/-
  Bytes and strings. Conditions: none.
-/
import Derived.Test.YtdpmjghdmpaehaaEvHc
import Derived.Lib.ConvBytes
import Derived.Laws.BytesString
namespace Go.Proofs.Ytdpmjghdmpaehaa.ev
set_option linter.unusedVariables false
set_option linter.unusedSimpArgs false
variable {P : Program} {N : Nat} {β : Mp}
def byteOf : Value → Option UInt8
  | .int .u8 (.ofNat n) => match Nat.blt n 256 with
    | true => some (UInt8.ofNat n)
    | false => none
  | _ => none
def bytesOf : List Value → Option (List UInt8)
  | [] => some []
  | v :: r => match byteOf v with
    | some b => match bytesOf r with
      | some l => some (b :: l)
      | none => none
    | none => none
theorem byteOf_some {v : Value} {b : UInt8} (h : byteOf v = some b) : v = .int .u8 (b.toNat : Int) := by
  unfold byteOf at h
  split at h
  · rename_i n
    split at h
    · rename_i hb
      simp only [Option.some.injEq] at h; subst h
      have hlt : n < 256 := Nat.le_of_ble_eq_true hb
      congr 1
      show (n : Int) = _
      rw [UInt8.toNat_ofNat']
      have : n % 2 ^ 8 = n := Nat.mod_eq_of_lt hlt
      omega
    · cases h
  · cases h
theorem bytesOf_some : ∀ {l : List Value} {bs : List UInt8}, bytesOf l = some bs → l = (bs.map fun b => (b.toNat : Int)).map (Value.int .u8)
  | [], bs, h => by simp only [bytesOf, Option.some.injEq] at h; subst h; rfl
  | v :: r, bs, h => by
    simp only [bytesOf] at h
    split at h
    · rename_i b hb
      split at h
      · rename_i l hl
        simp only [Option.some.injEq] at h; subst h
        rw [byteOf_some hb, bytesOf_some hl]
        rfl
      · cases h
    · cases h
theorem fold_push : ∀ (bs : List UInt8) (r : ByteArray), (bs.map fun b => (b.toNat : Int)).foldl (fun r n => r.push (UInt8.ofNat n.toNat)) r = ⟨r.data ++ bs.toArray⟩
  | [], r => by simp
  | b :: bs, r => by
    rw [List.map_cons, List.foldl_cons, fold_push bs]
    congr 1
    simp [ByteArray.push]
def strOf (o n : Nat) : Ao → Option Value
  | .row C _ _ => match Nat.beq (C.sub o n).length n with
    | true => match bytesOf (C.sub o n) with
      | some bs => some (.string ⟨bs.toArray⟩)
      | none => none
    | false => none
  | _ => none
def sameRow (P : Program) : Ao → Option Ao
  | .row C te g => match P.underlying te with
    | some (.int .u8) => match C.isSym with
      | true => none
      | false => some (.row C te g)
    | _ => none
  | _ => none
def evConv (P : Program) (s d : TypeId) (x : Value) : Comp Value :=
  match P.underlying s, P.underlying d with
  | some .string, some (.slice e) => match P.underlying e, x with
    | some (.int .u8), .string q => match (P.info? e).map (·.size) with
      | some 1 => bind (nw (.row (.leaf (q.data.toList.map fun b => .int .u8 b.toNat)) e true)) fun k => ret (.slice (some ⟨k, 0, none⟩) q.data.toList.length q.data.toList.length)
      | _ => fail
    | _, _ => fail
  | some (.slice e), some .string => match P.underlying e, x with
    | some (.int .u8), .slice (some ⟨i, o, none⟩) (n + 1) _ => bind (rd i) fun ao => ofOpt (strOf o (n + 1) ao)
    | _, _ => fail
  | some (.slice _), some (.slice e) => match Nat.beq s d, P.underlying e, x with
    | true, some (.int .u8), .slice (some ⟨i, o, none⟩) l (c + 1) => bind (rd i) fun ao => bind (ofOpt (sameRow P ao)) fun r => bind (wr i (some r)) fun _ => ret (.slice (some ⟨i, o, none⟩) l (c + 1))
    | _, _, _ => fail
  | _, _ => fail
theorem freeze_at {w : World} {b : Nat} {C : Array Value} {te : TypeId} {fr : Nat × Nat} (h : w.heap[b]? = some (.cells C te fr)) (hfr : fr = (0, 0) ∨ fr = (C.size, C.size + 1)) : (w.freeze ⟨b, C.size, none⟩ 1).heap[b]? = some (.cells C te (C.size, C.size + 1)) := by
  unfold World.freeze
  rw [if_neg (by omega)]
  simp only [Array.getElem?_modify, if_true, h, Option.map_some]
  rcases hfr with rfl | rfl <;> simp
theorem evSame_ok [Env] {s d e e0 : TypeId} {i o l c : Nat} {x' : Value} (hs : P.underlying s = some (.slice e0)) (hd : P.underlying d = some (.slice e)) (he : P.underlying e = some (.int .u8)) (hsd : s = d) (hx : VR β (.slice (some ⟨i, o, none⟩) l (c + 1)) x') :
    RunS P N β (bind (rd i) fun ao => bind (ofOpt (sameRow P ao)) fun r => bind (wr i (some r)) fun _ => ret (.slice (some ⟨i, o, none⟩) l (c + 1))) (Go.convert s d x') := by
  refine RunS.rd fun ao c0 h q w hq hao hs' hN hfr => ?_
  refine Does.opt hq fun r q2 hr2 hq2 hc2 => ?_
  obtain ⟨o3, q3, ho3, hq3, rfl⟩ := bind_some hq2
  obtain ⟨h', rfl, hset⟩ := wr_some ho3
  simp only [ev.ret, Option.some.injEq] at hq3; subst hq3
  obtain ⟨I, c', hβ, rfl, _, _⟩ := hx.slice_pos (by omega)
  obtain ⟨I', hI, hN', hlt, hob⟩ := hs'.obj i ao hao
  rw [hβ] at hI; cases hI
  cases ao with
  | map es clk => cases hr2
  | iter q0 p0 => cases hr2
  | mapIt q0 q1 q2 q3 => cases hr2
  | row C0 te g =>
    simp only [sameRow] at hr2
    split at hr2
    rotate_left
    · cases hr2
    rename_i hte8
    split at hr2
    · cases hr2
    rename_i hns
    simp only [Option.some.injEq] at hr2; subst hr2
    obtain ⟨hok, vs, hpw, hlen, hra, hth, hg0, hg1, hfz⟩ := hob
    have hth := nosym hns hth
    have hN' := nosym hns hN'
    obtain ⟨C, te', fr, hC, hfz⟩ := nosym hns hfz
    have hnew := freeze_at hC (hfz.2.imp id And.left)
    have hother : ∀ k, k ≠ I.blk → (w.freeze ⟨I.blk, C.size, none⟩ 1).heap[k]? = w.heap[k]? := fun k hk => by
      unfold World.freeze
      rw [if_neg (by omega)]
      simp [Array.getElem?_modify, Ne.symm hk]
    have hsize : (w.freeze ⟨I.blk, C.size, none⟩ 1).heap.size = w.heap.size := by
      unfold World.freeze
      rw [if_neg (by omega)]
      simp
    have hcell : ∀ j, (w.freeze ⟨I.blk, C.size, none⟩ 1).cell? ⟨I.blk, j, none⟩ = w.cell? ⟨I.blk, j, none⟩ := fun j => by
      rw [cell_of_row _ _ _ _ _ _ hnew, cell_of_row _ _ _ _ _ _ hC]
    have hsim : Sim P N β h' (w.freeze ⟨I.blk, C.size, none⟩ 1) := by
      refine hs'.upd (by rw [hsize]; exact Nat.le_refl _) i _ hset (fun _ _ h => h) (fun ob heq => ?_) (fun j o' J hj hjo hJ => hother _ (hs'.far' hjo hao hJ hβ hj hns))
      cases heq
      refine ⟨I, hβ, hN', by rw [hsize]; exact hlt, ⟨hok, vs, hpw, hlen, fun j v hv => by rw [hcell]; exact hra j v hv, .inr fun j hj => ?_, hg0, hg1, .inr ⟨C, te', _, hnew, hfz.1, .inr ⟨rfl, hte8⟩⟩⟩, fun j o' J hj hjo hJ => hs'.far' hjo hao hJ hβ hj hns⟩
      have h1 := (hth j hj).1
      refine ⟨by rw [hcell]; exact h1, ?_⟩
      rw [cell_of_row _ _ _ _ _ _ hC] at h1
      have hlt' : I.base + j < C.size := by
        rcases Nat.lt_or_ge (I.base + j) C.size with h2 | h2
        · exact h2
        · rw [Array.getElem?_eq_none h2] at h1; cases h1
      simp only [World.frozen?, hnew]
      simp; omega
    refine ⟨.slice (some ⟨I.blk, I.base + o, none⟩) l c', _, β, ?_, Ext.refl _ _ _, hsim, hx, ⟨?_, ?_, ?_, by rw [hsize]; exact Nat.le_refl _, fun k hk => hother k (by omega)⟩⟩
    · subst hsd
      have hee : e0 = e := by rw [hs] at hd; cases hd; rfl
      subst hee
      have hshape : w.shape? I.blk = some (te', C.size) := by simp [World.shape?, hC]
      simp [Go.convert, Sem.run_bind, run_underlying hs, run_underlying hd, run_underlying he, markStringish, shape, freeze, Sem.run, hshape]
    · unfold World.freeze; rw [if_neg (by omega)]
    · unfold World.freeze; rw [if_neg (by omega)]
    · unfold World.freeze; rw [if_neg (by omega)]
theorem evConv_ok [Env] {s d : TypeId} {x x' : Value} (hx : VR β x x') : RunS P N β (evConv P s d x) (Go.convert s d x') := by
  unfold evConv
  split
  · rename_i e hs hd
    split
    · rename_i q he
      split
      · rename_i hsz
        cases hx
        intro c h o w ho hs' hN hfr
        obtain ⟨o1, q1, ho1, hq1, rfl⟩ := bind_some ho
        obtain ⟨h', rfl, hset⟩ := nw_some ho1
        simp only [ev.ret, Option.some.injEq] at hq1; subst hq1
        have hrun := Lib.run_convert_string_bytes (P := P) w s d e q hs hd he
        have hge : q.size ≤ grownCap w q.size 0 e := grownCap_ge w q.size 0 e
        have hnew := Lib.bytesWorld_at_new w e q
        have hcs : (Lib.bytesCells w e q).size = grownCap w q.size 0 e := by simp [Lib.bytesCells]; omega
        have hfl : (q.data.toList.map fun b => Value.int .u8 (b.toNat : Int)).all flat = true := by
          rw [List.all_eq_true]; intro v hv
          obtain ⟨b, _, rfl⟩ := List.mem_map.1 hv
          rfl
        have hfc : β c = none := hfr c (Nat.le_refl _) (by simp)
        let I : Im := ⟨w.heap.size, 0, q.size, grownCap w q.size 0 e - q.size, 1⟩
        let β' : Mp := fun k => if k = c then some I else β k
        have hb : ∀ k J, β k = some J → β' k = some J := fun k J hk => by
          show (if k = c then some I else β k) = some J
          rw [if_neg (by rintro rfl; rw [hfc] at hk; cases hk)]; exact hk
        have hI : β' c = some I := if_pos rfl
        have hsim : Sim P N β' h' (Lib.bytesWorld w e q) := by
          refine hs'.upd (by rw [Lib.bytesWorld_size]; omega) c _ (Tr.get_set _ _ _ _ _ hset) hb (fun ob heq => ?_) (fun j o' J hj hjo hJ => ?_)
          · cases heq
            refine ⟨I, hI, hN, by rw [Lib.bytesWorld_size]; exact Nat.lt_succ_self _, ⟨trivial, _, PW.of_flat hfl, by simp only [Cs.list, List.length_map]; rfl, fun j v hv => ?_, .inr fun j hj => ?_, fun hh => (by cases hh), fun _ => ⟨hsz, by simp [I]⟩, .inr ⟨_, _, _, hnew, rfl, .inr ⟨rfl, he⟩⟩⟩, fun j o' J hj hjo hJ => ?_⟩
            · show World.cell? _ ⟨w.heap.size, 0 + j, none⟩ = _
              rw [Nat.zero_add, cell_of_row _ _ _ _ _ _ hnew]
              have hjl : j < q.data.toList.length := by have := (List.getElem?_eq_some_iff.1 hv).1; simpa [Cs.list] using this
              unfold Lib.bytesCells
              rw [Array.getElem?_append_left (by simpa using hjl)]
              simpa [Cs.list] using hv
            · show (World.cell? _ ⟨w.heap.size, 0 + j, none⟩).isSome = true ∧ World.frozen? _ ⟨w.heap.size, 0 + j, none⟩ = false
              have hjs : j < (Lib.bytesCells w e q).size := by rw [hcs]; simp only [I] at hj; omega
              rw [Nat.zero_add, cell_of_row _ _ _ _ _ _ hnew]
              refine ⟨by simp [hjs], ?_⟩
              simp only [World.frozen?, hnew]
              simp; omega
            · obtain ⟨J', k1, _, k3, _⟩ := hs'.obj j o' hjo
              rw [hJ] at k1; cases k1
              show J.blk ≠ w.heap.size
              omega
          · obtain ⟨J', k1, _, k3, _⟩ := hs'.obj j o' hjo
            rw [hJ] at k1; cases k1
            exact Lib.bytesWorld_at_old w e q _ k3
        refine ⟨_, _, β', hrun, ⟨hb, fun k hk => ?_⟩, hsim, ?_, ⟨rfl, rfl, rfl, by rw [Lib.bytesWorld_size]; omega, fun k hk => Lib.bytesWorld_at_old w e q k (by omega)⟩⟩
        · by_cases e' : k = c
          · simp only; omega
          · exact absurd (if_neg e') hk
        · have := VR.sl (β := β') (a' := ⟨w.heap.size, 0, none⟩) 0 q.size q.size (grownCap w q.size 0 e) hI (Nat.le_refl _) hge (.inr ⟨by simp [I], by simp [I], by simp [I]; omega⟩) (.inl rfl)
          exact this
      · exact RunS.fail
    · exact RunS.fail
  · rename_i e hs hd
    split
    · rename_i i o n c he
      refine RunS.rd fun ao c0 h q w hq hao hs' hN hfr => ?_
      obtain ⟨v, hv, rfl⟩ := ofOpt_some hq
      have hlc := hx.slice_le
      obtain ⟨I, c', hβ, rfl, _, _⟩ := hx.slice_pos (by omega)
      obtain ⟨I', hI, hN', hlt, hob⟩ := hs'.obj i ao hao
      rw [hβ] at hI; cases hI
      cases ao with
      | map es clk => cases hv
      | iter q0 p0 => cases hv
      | mapIt q0 q1 q2 q3 => cases hv
      | row C te g =>
        obtain ⟨hok, vs, hpw, hlen, hra, hth, _, _⟩ := hob
        simp only [strOf] at hv
        split at hv
        · rename_i hb
          have hb := Nat.of_beq hb
          have hs0 := Cs.sub_ok C _ _ hok hb
          rw [hs0] at hb hv
          generalize hcs : C.list = cs at hpw hlen hv hb
          split at hv
          · rename_i bs hbs
            simp only [Option.some.injEq] at hv; subst hv
            refine Does.val hs' (.str _) ?_
            have hp := (hpw.drop o).take (n + 1)
            have hcells := bytesOf_some hbs
            have hflat : ((cs.drop o).take (n + 1)).all flat = true := by
              rw [hcells, List.all_eq_true]; intro v hv
              obtain ⟨b, _, rfl⟩ := List.mem_map.1 hv
              rfl
            have heq : (vs.drop o).take (n + 1) = (cs.drop o).take (n + 1) := by
              apply List.ext_getElem hp.1.symm
              intro j h1 h2
              rw [List.all_eq_true] at hflat
              exact ((hp.2 j _ _ (List.getElem?_eq_getElem h2) (List.getElem?_eq_getElem h1)).flat_eq 6 (hflat _ (List.getElem_mem h2))).symm
            have hl : (loadCells ⟨I.blk, I.base + o, none⟩ (n + 1)).run P w = .ok ((bs.map fun b => (b.toNat : Int)).map (Value.int .u8)).toArray w := by
              have hrg := range_sub (k := o) (n := n + 1) hra
              rw [heq, hcells] at hrg
              have hlen' : ((bs.map fun b => (b.toNat : Int)).map (Value.int .u8)).length = n + 1 := by rw [← hcells]; exact hb
              have := run_loadCells_list (P := P) w ⟨I.blk, I.base + o, none⟩ _ (fun j v hv => by rw [Addr.add_mid]; exact hrg j v hv)
              rwa [hlen'] at this
            have hr := run_bytesToString (P := P) w _ (n + 1) c' _ hl
            rw [fold_push] at hr
            have e1 : (⟨ByteArray.empty.data ++ bs.toArray⟩ : ByteArray) = ⟨bs.toArray⟩ := by
              have : ByteArray.empty.data = #[] := rfl
              rw [this]; simp
            rw [e1] at hr
            simp only [Go.convert, Sem.run_bind, run_underlying hs, run_underlying hd, run_underlying he, Result.andThen_ok, hr]
          · cases hv
        · cases hv
    · exact RunS.fail
  · rename_i e0 e hs hd
    split
    · rename_i i o l c hsd he
      exact evSame_ok hs hd he (Nat.of_beq hsd) hx
    · exact RunS.fail
  · exact RunS.fail
end Go.Proofs.Ytdpmjghdmpaehaa.ev
