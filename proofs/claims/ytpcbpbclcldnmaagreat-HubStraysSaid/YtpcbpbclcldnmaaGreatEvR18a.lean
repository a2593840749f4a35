/-
  HubStrays, by a run of each path over rows of bytes that are not looked into. Conditions: none.
-/
import Derived.Test.YtpcbpbclcldnmaaGreatEvUs
import Derived.Test.YtpcbpbclcldnmaaGreatEvP18
import Derived.Test.YtpcbpbclcldnmaaGreatEvV
import Derived.Test.YtpcbpbclcldnmaaGreatEvBd
import Derived.Test.YtpcbpbclcldnmaaGreatOrm
import Derived.KernelRfl
import Derived.DeepKeys
namespace Go.Proofs.YtpcbpbclcldnmaaGreat.ev
set_option maxRecDepth 1000000
set_option linter.unusedVariables false
set_option linter.unusedSimpArgs false
open Go.ChangeShapes Go.WideShapes Go.ChangeAt Go.RowKit Go.IntWalk Go.Lib
theorem ac [Env] {P : Program} {e : Ent} {l : List Ent} (h : EntOK P e) (k : ∀ x ∈ l, EntOK P x) : ∀ x ∈ e :: l, EntOK P x := allECons h k
def headR (zs hd : List Int) (j : Nat) : Int := if j < 2097152 then zs.getD (j - 1048576) 0 else hd.getD (j - 2097152) 0
theorem headR_bd {zs hd : List Int} (h : ∀ n ∈ zs, (Lit.int .u8 n).wf = true) (hh : ∀ n ∈ hd, 0 ≤ n ∧ n ≤ 255) (j : Nat) : 0 ≤ headR zs hd j ∧ headR zs hd j ≤ 255 := by
  unfold headR
  split
  · rw [List.getD_eq_getElem?_getD]
    cases hz : zs[j - 1048576]? with
    | none => exact ⟨by decide, by decide⟩
    | some z => exact u8Bd (h z (List.mem_of_getElem? hz))
  · rw [List.getD_eq_getElem?_getD]
    cases hz : hd[j - 2097152]? with
    | none => exact ⟨by decide, by decide⟩
    | some z => exact hh z (List.mem_of_getElem? hz)
end Go.Proofs.YtpcbpbclcldnmaaGreat.ev
