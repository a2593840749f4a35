/-
  What the small memory's run says of this program's functions. Conditions: none.
-/
import Derived.Test.YtdpmjghdmpaehaaEvM
import Derived.Test.YtdpmjghdmpaehaaLib
import Derived.Test.YtdpmjghdmpaehaaProg
import Derived.KernelRfl
namespace Go.Proofs.Ytdpmjghdmpaehaa.ev
set_option maxRecDepth 1000000
theorem mixed : Try.prog.follows .mixedOrders = true := by kernel_rfl
theorem noCount : Try.prog.funcs.toList.all (fun fn => !(fn.name == "runtime.NumGoroutine")) = true := by kernel_rfl
theorem noCount' (k : Nat) (fn : Func) (h : Try.prog.funcs[k]? = some fn) : (fn.name == "runtime.NumGoroutine") = false := by
  have := noCount
  rw [List.all_eq_true] at this
  have := this fn (by have := Array.mem_of_getElem? h; simpa using this)
  simpa using this
theorem Keep.only {w w' : World} (h : Keep w.heap.size w w') : Only [] w w' := ⟨h.os, h.tape, h.output, h.size, fun k hk _ => h.block k hk⟩
theorem law {f : Nat} {k : FuncId} {args : List Value} {b : Bool} (h : says (evCall Try.prog f k args 0 .lf) = some b) (hargs : args.all flat = true) (w : World) :
    Calls Try.prog k args.toArray w (fun e w' => e = .returned (.bool b) ∧ Only [] w w') :=
  (calls mixed noCount' h hargs w).mono fun _ _ ⟨h1, h2⟩ => ⟨h1, h2.only⟩
end Go.Proofs.Ytdpmjghdmpaehaa.ev
