/-
  What the small memory's run says of this program's functions. Conditions: none.
-/
import Derived.Test.YtdpmjghdmpaehaaEvX
import Derived.Test.YtdpmjghdmpaehaaLib
import Derived.Test.YtdpmjghdmpaehaaProg
import Derived.KernelRfl
namespace Go.Proofs.Ytdpmjghdmpaehaa.ev
set_option maxRecDepth 1000000
theorem mixed : Try.prog.follows .mixedOrders = true := by kernel_rfl
theorem noCount : Try.prog.funcs.toList.all (fun fn => !(fn.name == "runtime.NumGoroutine")) = true := by kernel_rfl
theorem noCount' (k : Nat) (fn : Func) (h : Try.prog.funcs[k]? = some fn) : (fn.name == "runtime.NumGoroutine") = false := by
  have := noCount
  rw [List.all_eq_true] at this
  have := this fn (by have := Array.mem_of_getElem? h; simpa using this)
  simpa using this
theorem Keep.only {w w' : World} (h : Keep w.heap.size w w') : Only [] w w' := ⟨h.os, h.tape, h.output, h.size, fun k hk _ => h.block k hk⟩
theorem Only_kept {w w' : World} (h : Only [] w w') : Keep w.heap.size w w' := ⟨h.os, h.tape, h.output, h.size, fun k hk => h.block k hk (by simp)⟩
/-- It is known that a call of kn without arguments yields true. -/
def spKnown (kn : FuncId) : SpF := fun k args => match Nat.beq k kn, args with
  | true, [] => some (ret (.bool true))
  | _, _ => none
theorem spKnown_ok [Env] {kn : FuncId} (hf : ((Try.prog.funcs[kn]?).any fun fn => fn.body.isSome) = true) (h : ∀ w, Calls Try.prog kn #[] w (fun e w' => e = .returned (.bool true) ∧ Only [] w w')) : SpOK Try.prog (spKnown kn) := by
  have key : ∀ k args m, spKnown kn k args = some m → k = kn ∧ args = [] ∧ m = ret (.bool true) := fun k args m hm => by
    unfold spKnown at hm
    split at hm
    · rename_i hb
      simp only [Option.some.injEq] at hm
      exact ⟨Nat.of_beq hb, rfl, hm.symm⟩
    · cases hm
  refine ⟨fun k args m hm => ?_, fun k args m hm => ?_, fun k args m hm => ?_⟩
  · obtain ⟨_, _, rfl⟩ := key k args m hm
    exact Local.ret _
  · obtain ⟨rfl, _, _⟩ := key k args m hm
    cases hfn : Try.prog.funcs[k]? with
    | none => rw [hfn] at hf; cases hf
    | some fn =>
      rw [hfn] at hf
      refine ⟨fn, rfl, noCount' k fn hfn, ?_⟩
      cases hb : fn.body with
      | none => rw [show (some fn).any (fun fn => fn.body.isSome) = fn.body.isSome from rfl, hb] at hf; cases hf
      | some b => rfl
  · obtain ⟨rfl, rfl, rfl⟩ := key k args m hm
    intro N args' β c hh o w he hp hs hN hf
    refine spVal (v := .bool true) (fun β args' hp w => ?_) N args' β c hh o w he hp hs hN
    rw [hp.nil_left]
    exact (h w).mono fun e w' ⟨h1, h2⟩ => ⟨_, h1, .bool true, Only_kept h2⟩
/-- What is handed in and not looked into: the values of a list, and bytes: those that have the numbers from 1048576 on. -/
def envE (l : List Value) (R : Nat → Int) (j : Nat) : Value := match Nat.blt j 1000 with
  | true => match l.getD j undef with
    | .int k n => .int k n
    | _ => .int .i64 0
  | false => match Nat.blt j 1048576 with
    | true => l.getD (j - 1000) undef
    | false => .int .u8 (R j)
theorem envE_num (l : List Value) (R : Nat → Int) (j : Nat) (h : j < 1000) : ∃ k n, envE l R j = .int k n := by
  unfold envE
  rw [show Nat.blt j 1000 = true from Nat.ble_eq_true_of_le h]
  simp only
  split
  · exact ⟨_, _, rfl⟩
  · exact ⟨_, _, rfl⟩
theorem blt_no {a b : Nat} (h : b ≤ a) : Nat.blt a b = false := by
  cases hb : Nat.blt a b with
  | false => rfl
  | true => have := blt_true hb; omega
theorem envE_row (l : List Value) (R : Nat → Int) (j : Nat) (h : 1048576 ≤ j) : envE l R j = .int .u8 (R j) := by
  unfold envE
  rw [blt_no (show 1000 ≤ j by omega), blt_no h]
abbrev envR (l : List Value) (R : Nat → Int) (hR : ∀ j, 0 ≤ R j ∧ R j ≤ 255) : Env := ⟨envE l R, envE_num l R, fun j h => ⟨_, envE_row l R j h, (hR j).1, (hR j).2⟩⟩
abbrev env (l : List Value) : Env := envR l (fun _ => 0) (fun _ => ⟨by decide, by decide⟩)
theorem lawT (l : List Value) {tab : TabF} {sp : SpF} (hsp : @SpOK (env l) Try.prog sp) (htab : ∀ β o xs v ρ, tab o xs = some v → @PW (env l) β xs (o.op.operands.toList.map ρ) → ∃ v', @VR (env l) β v v' ∧ ∀ w, (execOp ρ o).run Try.prog w = .ok (.value v') w)
    {f : Nat} {k : FuncId} {args args' : List Value} {b : Bool} (h : says (fxCall Try.prog tab sp f k args 0 .lf) = some b) (hargs : @PW (env l) (fun _ => none) args args') (w : World) :
    Calls Try.prog k args'.toArray w (fun e w' => e = .returned (.bool b) ∧ Only [] w w') := by
  letI : Env := env l
  exact (callsT (P := Try.prog) hsp htab mixed noCount' (fxCall_says h) hargs w).mono fun _ _ ⟨h1, h2⟩ => ⟨h1, h2.only⟩
theorem law {f : Nat} {k : FuncId} {args : List Value} {b : Bool} (h : says (fxCall Try.prog noTab noSp f k args 0 .lf) = some b) (hargs : args.all flat = true) (w : World) :
    Calls Try.prog k args.toArray w (fun e w' => e = .returned (.bool b) ∧ Only [] w w') :=
  lawT [] (@noSp_ok Try.prog (env [])) (fun _ _ _ _ _ h => (by cases h)) h (@PW.of_flat (env []) _ _ hargs) w
/-- As 'law', where it is known what known() yields. -/
theorem lawK {kn : FuncId} (hf : ((Try.prog.funcs[kn]?).any fun fn => fn.body.isSome) = true) (hk : ∀ w, Calls Try.prog kn #[] w (fun e w' => e = .returned (.bool true) ∧ Only [] w w'))
    {f : Nat} {k : FuncId} {args : List Value} {b : Bool} (h : says (fxCall Try.prog noTab (spKnown kn) f k args 0 .lf) = some b) (hargs : args.all flat = true) (w : World) :
    Calls Try.prog k args.toArray w (fun e w' => e = .returned (.bool b) ∧ Only [] w w') :=
  lawT [] (@spKnown_ok (env []) kn hf hk) (fun _ _ _ _ _ h => (by cases h)) h (@PW.of_flat (env []) _ _ hargs) w
end Go.Proofs.Ytdpmjghdmpaehaa.ev
