/-
  Put together. Conditions: none.
-/
import Derived.Test.YtdfnjcbgakmibaaGreatEvK7Ca
import Derived.Test.YtdfnjcbgakmibaaGreatEvK7Cb
namespace Go.Proofs.YtdfnjcbgakmibaaGreat.ev
set_option maxRecDepth 1000000
set_option linter.unusedVariables false
theorem mmK70_ok : @MemoOK E0 Tryz.prog mmK70 := letI : Env := E0; memo (spKnown_ok knownBody known) noTab_ok mmK70_chk
theorem mmK71_ok : @MemoOK E0 Tryz.prog mmK71 := letI : Env := E0; memo (spKnown_ok knownBody known) noTab_ok mmK71_chk
theorem keeps0 (w : World) : Calls Tryz.prog 7 #[.int .i64 0] w (fun e w' => e = .returned (.bool true) ∧ Only [] w w') := letI : Env := E0; lawM (spTwo_ok (spM_ok (allCons mmK70_ok allNil)) (spKnown_ok knownBody known)) keeps0_says rfl w
theorem keeps1 (w : World) : Calls Tryz.prog 7 #[.int .i64 1] w (fun e w' => e = .returned (.bool true) ∧ Only [] w w') := letI : Env := E0; lawM (spTwo_ok (spM_ok (allCons mmK71_ok allNil)) (spKnown_ok knownBody known)) keeps1_says rfl w
end Go.Proofs.YtdfnjcbgakmibaaGreat.ev
