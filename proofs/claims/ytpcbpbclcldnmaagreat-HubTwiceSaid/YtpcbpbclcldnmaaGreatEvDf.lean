/-
  Functions whose calls wait for the end (defer), as calls known ahead. Conditions: none.
-/
import Derived.Test.YtpcbpbclcldnmaaGreatEvHp
namespace Go.Proofs.YtpcbpbclcldnmaaGreat.ev
set_option linter.unusedVariables false
set_option linter.unusedSimpArgs false
variable {P : Program}
def spDf (P : Program) (tab : TabF) (sp : SpF) (f : Nat) (ks : List Nat) : SpF := fun k args => match memN k ks with
  | true => some (callWith P (evCode P tab sp f) k args)
  | false => none
theorem spDf_ok [Env] {tab : TabF} {sp : SpF} (hsp : SpOK P sp) (htab : ∀ β o xs v ρ, tab o xs = some v → PW β xs (o.op.operands.toList.map ρ) → ∃ v', VR β v v' ∧ ∀ w, (execOp ρ o).run P w = .ok (.value v') w)
    (hm : P.follows .mixedOrders = true) (hnn : ∀ (k : Nat) (fn : Func), P.funcs[k]? = some fn → (fn.name == "runtime.NumGoroutine") = false) (f : Nat) {ks : List Nat} (hks : ∀ k ∈ ks, ∃ fn, P.funcs[k]? = some fn ∧ (fn.name == "runtime.NumGoroutine") = false ∧ fn.body.isNone = false) : SpOK P (spDf P tab sp f ks) := by
  have key : ∀ k args m, spDf P tab sp f ks k args = some m → k ∈ ks ∧ m = callWith P (evCode P tab sp f) k args := by
    intro k args m h
    unfold spDf at h
    split at h
    · rename_i hb
      cases h
      exact ⟨memN_ok hb, rfl⟩
    · cases h
  refine ⟨fun k args m h => ?_, fun k args m h => ?_, fun k args m h => ?_⟩
  · obtain ⟨_, rfl⟩ := key k args m h
    exact callWith_loc (evCode_loc hsp.loc f) k args
  · exact hks k (key k args m h).1
  · obtain ⟨_, rfl⟩ := key k args m h
    intro N args' β c hh o w he hp hs hN hf
    exact ((evCode_ok (N := N) hsp htab hm hnn f).call0 hnn htab).run k args args' β c hh o w he hp hs hN hf
end Go.Proofs.YtpcbpbclcldnmaaGreat.ev
