/-
  Chapter 22: what is known of known(). Conditions: none.
-/
import Derived.Test.YtjljmohpgjiplaaEvN
namespace Go.Proofs.Ytjljmohpgjiplaa.ev
set_option maxRecDepth 1000000
theorem known (w : World) : Calls Try.prog 9 #[] w (fun e w' => e = .returned (.bool true) ∧ Only [] w w') :=
  law (f := 300) (args := []) (by kernel_rfl) rfl w
theorem knownBody : ((Try.prog.funcs[9]?).any fun fn => fn.body.isSome) = true := by kernel_rfl
end Go.Proofs.Ytjljmohpgjiplaa.ev
