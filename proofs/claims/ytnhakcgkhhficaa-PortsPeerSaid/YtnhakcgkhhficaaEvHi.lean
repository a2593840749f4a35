/-
  Strings ranged over. Conditions: none.
-/
import Derived.Test.YtnhakcgkhhficaaEvHv
namespace Go.Proofs.Ytnhakcgkhhficaa.ev
set_option linter.unusedVariables false
set_option linter.unusedSimpArgs false
variable {P : Program} {N : Nat} {β : Mp}
def evRange (P : Program) (t : TypeId) (x : Value) : Comp Value :=
  match P.underlying t, x with
  | some .string, .string s => bind (nw (.iter s 0)) fun i => ret (.pointer (some ⟨i, 0, none⟩))
  | _, _ => fail
theorem evRange_ok [Env] {t : TypeId} {x x' : Value} (hx : VR β x x') : RunS P N β (evRange P t x) (Instr.range t x') := by
  unfold evRange
  split
  · rename_i s hu
    cases hx
    intro c h o w he hs hN hf
    obtain ⟨o1, q1, ho1, hq1, rfl⟩ := bind_some he
    obtain ⟨h', rfl, hset⟩ := nw_some ho1
    simp only [ev.ret, Option.some.injEq] at hq1; subst hq1
    obtain ⟨e1, e2, e3⟩ := hs.alloc hN hset (hf c (Nat.le_refl _) (by simp)) ⟨w.heap.size, 0, 0, 0, 0⟩ rfl (.stringIter s 0) (fun β' hb => ⟨heap_alloc_new w _, rfl⟩)
    have e4 := VR.ptr (β := fun i => if i = c then some ⟨w.heap.size, 0, 0, 0, 0⟩ else β i) (i := c) (I := ⟨w.heap.size, 0, 0, 0, 0⟩) 0 e3
    refine ⟨_, _, _, ?_, e1, e2, e4, Keep.alloc w hN _⟩
    simp [Instr.range, Sem.run_bind, run_underlying hu, newObj, Sem.run]
  · exact RunS.fail
def stepIter : Ao → Option (Ao × Value)
  | .iter s pos => match Nat.blt pos s.data.toList.length with
    | true => some (.iter s (pos + (Utf8.decode s pos).2), .tuple #[.bool true, .int .i64 pos, .int .i32 (Utf8.decode s pos).1])
    | false => some (.iter s pos, .tuple #[.bool false])
  | _ => none
def evNext (x : Value) (str : Bool) : Comp Value :=
  match str, x with
  | true, .pointer (some ⟨i, 0, none⟩) => bind (rd i) fun ao => bind (ofOpt (stepIter ao)) fun r => bind (wr i (some r.1)) fun _ => gd (flat r.2) (ret r.2)
  | _, _ => fail
theorem evNext_ok [Env] {ty : TypeId} {x x' : Value} {str : Bool} (hx : VR β x x') : RunS P N β (evNext x str) (Instr.next x' str ty) := by
  unfold evNext
  split
  · rename_i i
    cases hx with
    | @ptr _ I _ hβ =>
      refine RunS.rd fun ao c h q w hq hao hs hN hfr => ?_
      refine Does.opt hq fun r q2 hr2 hq2 hc2 => ?_
      obtain ⟨o3, q3, ho3, hq3, rfl⟩ := bind_some hq2
      obtain ⟨h', rfl, hset⟩ := wr_some ho3
      obtain ⟨hfl, hq3⟩ := gd_some hq3
      simp only [ev.ret, Option.some.injEq] at hq3; subst hq3
      obtain ⟨I', hI, hN', hlt, hob⟩ := hs.obj i ao hao
      rw [hβ] at hI; cases hI
      cases ao with
      | map es clk => cases hr2
      | row cs te g => cases hr2
      | iter s pos =>
        obtain ⟨h1, h2⟩ := hob
        have keep : ∀ (p' : Nat), r.1 = .iter s p' → Sim P N β h' { w with heap := w.heap.setIfInBounds I.blk (.stringIter s p') } ∧ Keep N w { w with heap := w.heap.setIfInBounds I.blk (.stringIter s p') } := fun p' hr1 => by
          refine ⟨hs.upd (by simp) i _ hset (fun _ _ h => h) (fun o' he => ?_) (fun j o' J hj hjo hJ => ?_), ⟨rfl, rfl, rfl, by simp, fun k hk => ?_⟩⟩
          · rw [hr1] at he; cases he
            exact ⟨I, hβ, hN', by simpa using hlt, ⟨by simp [hlt], h2⟩, fun j o' J hj hjo hJ => hs.inj j i _ _ _ _ hjo hao hJ hβ hj⟩
          · have := hs.inj j i _ _ _ _ hjo hao hJ hβ hj
            simp [Array.getElem?_setIfInBounds_ne (Ne.symm this)]
          · have : I.blk ≠ k := by omega
            simp [Array.getElem?_setIfInBounds_ne this]
        have hadr : (⟨I.blk, I.base + 0, none⟩ : Addr) = ⟨I.blk, 0, none⟩ := by rw [h2]
        rw [hadr]
        simp only [stepIter] at hr2
        split at hr2
        · rename_i hlt2
          have hlt2 : pos < s.size := Nat.le_of_ble_eq_true hlt2
          simp only [Option.some.injEq] at hr2; subst hr2
          obtain ⟨k1, k2⟩ := keep _ rfl
          refine ⟨_, _, β, ?_, Ext.refl _ _ _, k1, VR.of_flat 6 _ hfl, k2⟩
          simp [Instr.next, Sem.run_bind, getObj, setObj, Sem.run, h1, hlt2, goInt]
        · rename_i hlt2
          have hlt2 : ¬ pos < s.size := fun hh => by
            rw [show Nat.blt pos s.data.toList.length = true from Nat.ble_eq_true_of_le hh] at hlt2; cases hlt2
          simp only [Option.some.injEq] at hr2; subst hr2
          refine ⟨_, w, β, ?_, Ext.refl _ _ _, ?_, VR.of_flat 6 _ hfl, Keep.refl _ _⟩
          · simp [Instr.next, Sem.run_bind, getObj, Sem.run, h1, hlt2]
          · refine hs.upd (Nat.le_refl _) i _ hset (fun _ _ h => h) (fun o' he => ?_) (fun j o' J hj hjo hJ => rfl)
            cases he
            exact ⟨I, hβ, hN', hlt, ⟨h1, h2⟩, fun j o' J hj hjo hJ => hs.inj j i _ _ _ _ hjo hao hJ hβ hj⟩
  · exact RunS.fail
end Go.Proofs.Ytnhakcgkhhficaa.ev
