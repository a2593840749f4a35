/-
  What the small memory's run says of this program's functions. Conditions: none.
-/
import Derived.Test.YtnhakcgkhhficaaEvM
import Derived.Test.YtnhakcgkhhficaaLib
import Derived.Test.YtnhakcgkhhficaaProg
import Derived.KernelRfl
namespace Go.Proofs.Ytnhakcgkhhficaa.ev
set_option maxRecDepth 1000000
theorem mixed : Try.prog.follows .mixedOrders = true := by kernel_rfl
theorem noCount : Try.prog.funcs.toList.all (fun fn => !(fn.name == "runtime.NumGoroutine")) = true := by kernel_rfl
theorem noCount' (k : Nat) (fn : Func) (h : Try.prog.funcs[k]? = some fn) : (fn.name == "runtime.NumGoroutine") = false := by
  have := noCount
  rw [List.all_eq_true] at this
  have := this fn (by have := Array.mem_of_getElem? h; simpa using this)
  simpa using this
theorem Keep.only {w w' : World} (h : Keep w.heap.size w w') : Only [] w w' := ⟨h.os, h.tape, h.output, h.size, fun k hk _ => h.block k hk⟩
/-- What is handed in and not looked into: the values of a list. -/
abbrev env (l : List Value) : Env := ⟨fun j => l.getD j undef⟩
theorem lawT (l : List Value) {tab : TabF} (htab : ∀ β o xs v ρ, tab o xs = some v → @PW (env l) β xs (o.op.operands.toList.map ρ) → ∃ v', @VR (env l) β v v' ∧ ∀ w, (execOp ρ o).run Try.prog w = .ok (.value v') w)
    {f : Nat} {k : FuncId} {args args' : List Value} {b : Bool} (h : says (evCall Try.prog tab f k args 0 .lf) = some b) (hargs : @PW (env l) (fun _ => none) args args') (w : World) :
    Calls Try.prog k args'.toArray w (fun e w' => e = .returned (.bool b) ∧ Only [] w w') := by
  letI : Env := env l
  exact (callsT (P := Try.prog) htab mixed noCount' h hargs w).mono fun _ _ ⟨h1, h2⟩ => ⟨h1, h2.only⟩
theorem law {f : Nat} {k : FuncId} {args : List Value} {b : Bool} (h : says (evCall Try.prog noTab f k args 0 .lf) = some b) (hargs : args.all flat = true) (w : World) :
    Calls Try.prog k args.toArray w (fun e w' => e = .returned (.bool b) ∧ Only [] w w') :=
  lawT [] (fun _ _ _ _ _ h => (by cases h)) h (@PW.of_flat (env []) _ _ hargs) w
end Go.Proofs.Ytnhakcgkhhficaa.ev
