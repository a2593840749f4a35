/-
  Strings ranged over. Conditions: none.
-/
import Derived.Test.YtojechkpkjlgkaaEvHv
namespace Go.Proofs.Ytojechkpkjlgkaa.ev
set_option linter.unusedVariables false
set_option linter.unusedSimpArgs false
variable {P : Program} {N : Nat} {β : Mp}
def evRange (P : Program) (t : TypeId) (x : Value) : Comp Value :=
  match P.underlying t, x with
  | some .string, .string s => bind (nw (.iter s 0)) fun i => ret (.pointer (some ⟨i, 0, none⟩))
  | _, _ => fail
theorem evRange_ok [Env] {t : TypeId} {x x' : Value} (hx : VR β x x') : RunS P N β (evRange P t x) (Instr.range t x') := by
  unfold evRange
  split
  · rename_i s hu
    cases hx
    intro c h o w he hs hN hf
    obtain ⟨o1, q1, ho1, hq1, rfl⟩ := bind_some he
    obtain ⟨h', rfl, hset⟩ := nw_some ho1
    simp only [ev.ret, Option.some.injEq] at hq1; subst hq1
    obtain ⟨e1, e2, e3⟩ := hs.alloc hN hset (hf c (Nat.le_refl _) (by simp)) ⟨w.heap.size, 0, 0, 0, 0⟩ rfl (.stringIter s 0) (fun β' hb => ⟨heap_alloc_new w _, rfl⟩)
    have e4 := VR.ptr (β := fun i => if i = c then some ⟨w.heap.size, 0, 0, 0, 0⟩ else β i) (i := c) (I := ⟨w.heap.size, 0, 0, 0, 0⟩) 0 e3
    refine ⟨_, _, _, ?_, e1, e2, e4, Keep.alloc w hN _⟩
    simp [Instr.range, Sem.run_bind, run_underlying hu, newObj, Sem.run]
  · exact RunS.fail
def stepIter : Ao → Option (Ao × Value)
  | .iter s pos => match Nat.blt pos s.data.toList.length with
    | true => some (.iter s (pos + (Utf8.decode s pos).2), .tuple #[.bool true, .int .i64 pos, .int .i32 (Utf8.decode s pos).1])
    | false => some (.iter s pos, .tuple #[.bool false])
  | _ => none
def evNext (x : Value) (str : Bool) : Comp Value :=
  match str, x with
  | true, .pointer (some ⟨i, 0, none⟩) => bind (rd i) fun ao => bind (ofOpt (stepIter ao)) fun r => bind (wr i (some r.1)) fun _ => gd (flat r.2) (ret r.2)
  | _, _ => fail
theorem evNext_ok [Env] {ty : TypeId} {x x' : Value} {str : Bool} (hx : VR β x x') : RunS P N β (evNext x str) (Instr.next x' str ty) := by
  unfold evNext
  split
  · rename_i i
    cases hx with
    | @ptr _ I _ hβ =>
      refine RunS.rd fun ao c h q w hq hao hs hN hfr => ?_
      refine Does.opt hq fun r q2 hr2 hq2 hc2 => ?_
      obtain ⟨o3, q3, ho3, hq3, rfl⟩ := bind_some hq2
      obtain ⟨h', rfl, hset⟩ := wr_some ho3
      obtain ⟨hfl, hq3⟩ := gd_some hq3
      simp only [ev.ret, Option.some.injEq] at hq3; subst hq3
      obtain ⟨I', hI, hN', hlt, hob⟩ := hs.obj i ao hao
      rw [hβ] at hI; cases hI
      cases ao with
      | map es clk => cases hr2
      | row cs te g => cases hr2
      | iter s pos =>
        obtain ⟨h1, h2⟩ := hob
        have keep : ∀ (p' : Nat), r.1 = .iter s p' → Sim P N β h' { w with heap := w.heap.setIfInBounds I.blk (.stringIter s p') } ∧ Keep N w { w with heap := w.heap.setIfInBounds I.blk (.stringIter s p') } := fun p' hr1 => by
          refine ⟨hs.upd (by simp) i _ hset (fun _ _ h => h) (fun o' he => ?_) (fun j o' J hj hjo hJ => ?_), ⟨rfl, rfl, rfl, by simp, fun k hk => ?_⟩⟩
          · rw [hr1] at he; cases he
            exact ⟨I, hβ, hN', by simpa using hlt, ⟨by simp [hlt], h2⟩, fun j o' J hj hjo hJ => hs.inj j i _ _ _ _ hjo hao hJ hβ hj⟩
          · have := hs.inj j i _ _ _ _ hjo hao hJ hβ hj
            simp [Array.getElem?_setIfInBounds_ne (Ne.symm this)]
          · have : I.blk ≠ k := by omega
            simp [Array.getElem?_setIfInBounds_ne this]
        have hadr : (⟨I.blk, I.base + 0, none⟩ : Addr) = ⟨I.blk, 0, none⟩ := by rw [h2]
        rw [hadr]
        simp only [stepIter] at hr2
        split at hr2
        · rename_i hlt2
          have hlt2 : pos < s.size := Nat.le_of_ble_eq_true hlt2
          simp only [Option.some.injEq] at hr2; subst hr2
          obtain ⟨k1, k2⟩ := keep _ rfl
          refine ⟨_, _, β, ?_, Ext.refl _ _ _, k1, VR.of_flat 6 _ hfl, k2⟩
          simp [Instr.next, Sem.run_bind, getObj, setObj, Sem.run, h1, hlt2, goInt]
        · rename_i hlt2
          have hlt2 : ¬ pos < s.size := fun hh => by
            rw [show Nat.blt pos s.data.toList.length = true from Nat.ble_eq_true_of_le hh] at hlt2; cases hlt2
          simp only [Option.some.injEq] at hr2; subst hr2
          refine ⟨_, w, β, ?_, Ext.refl _ _ _, ?_, VR.of_flat 6 _ hfl, Keep.refl _ _⟩
          · simp [Instr.next, Sem.run_bind, getObj, Sem.run, h1, hlt2]
          · refine hs.upd (Nat.le_refl _) i _ hset (fun _ _ h => h) (fun o' he => ?_) (fun j o' J hj hjo hJ => rfl)
            cases he
            exact ⟨I, hβ, hN', hlt, ⟨h1, h2⟩, fun j o' J hj hjo hJ => hs.inj j i _ _ _ _ hjo hao hJ hβ hj⟩
  · exact RunS.fail
/-! ### Zeros appended to nothing -/
def evAppMake (P : Program) (t tx : TypeId) (s : Value) (n : Nat) : Comp Value :=
  match s with
  | .slice none 0 0 => match P.underlying tx with
    | some (.int _) => match P.underlying t with
      | some (.slice e) => match P.info? e with
        | some i => match i.zero with
          | some z => gd (flat z && (Nat.beq z.cells.size i.size && (Nat.blt 0 i.size && (Nat.blt 0 n && (fits n i.bytes && (Builtin.zeroCells z.cells n).toList.all flat)))))
              (bind (nw (.row (.leaf (Builtin.zeroCells z.cells n).toList) e true)) fun k => ret (.slice (some ⟨k, 0, none⟩) n n))
          | none => fail
        | none => fail
      | _ => fail
    | _ => fail
  | _ => fail
theorem run_app_make {t tx ty e : TypeId} {k : IntKind} {i : TypeInfo} {z : Value} (ht : P.underlying t = some (.slice e)) (hk : P.underlying tx = some (.int k)) (hi : P.info? e = some i) (hz : i.zero = some z) {n : Nat} (h0 : 0 < n) (hn : n ≤ 2 ^ 40) (hfit : n * i.bytes ≤ 2 ^ 46) (hs : 0 < i.size) (w : World) :
    (Builtin.append_ #[t, tx] ty #[.slice none 0 0, .int .i64 (n : Int)]).run P w = .ok (.slice (some ⟨w.heap.size, 0, none⟩) n (grownCap w n 0 e))
        (w.drew.alloc (.cells (Builtin.zeroCells z.cells n ++ Builtin.zeroCells z.cells (grownCap w n 0 e - n)) e)) := by
  have hw : IntKind.i64.wrap (n : Int) = n := wrap_i64_nat hn
  have e1 : ¬ ((n : Int) < 0) := by omega
  have e2 : ¬ (281474976710656 < (n : Int) * (i.bytes : Int)) := by
    have : ((n * i.bytes : Nat) : Int) ≤ (2 ^ 46 : Nat) := by exact_mod_cast hfit
    rw [Int.natCast_mul] at this
    omega
  have e3 : ¬ (9223372036854775807 < (n : Int)) := by omega
  have e4 : ¬ (281474976710656 < Builtin.nextslicecap n 0 * i.bytes) := by
    have := growslice_fits (old := 0) (need := n) (bytes := i.bytes) (by omega) (by omega)
    omega
  have e5 : ¬ (n = 0) := by omega
  have e6 : ¬ (n * i.size = 0) := by
    intro h
    rcases Nat.mul_eq_zero.1 h with h | h <;> omega
  have e7 : ¬ (i.size = 0) := by omega
  simp [Builtin.append_, run_underlying ht, run_underlying hk, sizeOf, typeInfo, zeroValue, hi, hz, asInt, asIntOf, hw, e1, e2, e3, e4, e5, e6, e7, Question.forced, Builtin.firstCells, newRow, grownCap]
theorem evAppMake_ok [Env] {t tx ty : TypeId} {s s' : Value} {n : Nat} (hs : VR β s s') : RunS P N β (evAppMake P t tx s n) (Builtin.append_ #[t, tx] ty #[s', .int .i64 (n : Int)]) := by
  unfold evAppMake
  split
  · cases hs
    split
    · rename_i k hk
      split
      · rename_i e hu
        split
        · rename_i i hi
          split
          · rename_i z hz
            intro c h o w ho hs' hN hfr
            obtain ⟨hb, ho⟩ := gd_some ho
            simp only [Bool.and_eq_true] at hb
            obtain ⟨b1, b2, b3, b4, b5, hfl⟩ := hb
            have b2 := Nat.of_beq b2
            have b3 := blt_true b3
            have b4 := blt_true b4
            obtain ⟨hf1, hf2⟩ := fits_ok b5
            obtain ⟨o1, q1, ho1, hq1, rfl⟩ := bind_some ho
            obtain ⟨h', rfl, hset⟩ := nw_some ho1
            simp only [ev.ret, Option.some.injEq] at hq1; subst hq1
            have hrun := run_app_make (P := P) (ty := ty) hu hk hi hz b4 hf1 hf2 b3 w
            have hge := grownCap_ge w n 0 e
            have hlen : (Builtin.zeroCells z.cells n).toList.length = n * i.size := by
              rw [Array.length_toList, size_zeroCells, b2]
            obtain ⟨β', e1, e2, e3⟩ := hs'.grown hN (z := z) hi b3 b2 hge hset (hfr c (Nat.le_refl _) (by simp)) (PW.of_flat hfl) hlen
            refine ⟨_, _, β', hrun, e1, ?_, e3, Keep.grown w hN _⟩
            simpa using e2
          · exact RunS.fail
        · exact RunS.fail
      · exact RunS.fail
    · exact RunS.fail
  · exact RunS.fail
def evApp (P : Program) (t tx : TypeId) (s : Value) : Value → Comp Value
  | .int .i64 (.ofNat n) => evAppMake P t tx s n
  | x => evAppend P t tx s x
theorem evApp_ok [Env] {t tx ty : TypeId} {s x s' x' : Value} (hsv : VR β s s') (hx : VR β x x') : RunS P N β (evApp P t tx s x) (Builtin.append_ #[t, tx] ty #[s', x']) := by
  unfold evApp
  split
  · rw [hx.int_eq]; exact evAppMake_ok hsv
  · exact evAppend_ok hsv hx
end Go.Proofs.Ytojechkpkjlgkaa.ev
