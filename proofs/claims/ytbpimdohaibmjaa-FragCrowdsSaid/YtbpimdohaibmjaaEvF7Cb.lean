/-
  Calls worked out ahead: checked. Conditions: none.
-/
import Derived.Test.YtbpimdohaibmjaaEvF7Da
import Derived.Test.YtbpimdohaibmjaaEvF7Db
import Derived.Test.YtbpimdohaibmjaaEvF7Dc
import Derived.Test.YtbpimdohaibmjaaEvF7Dd
import Derived.KernelRfl
namespace Go.Proofs.Ytbpimdohaibmjaa.ev
set_option maxRecDepth 1000000
set_option linter.unusedVariables false
theorem crowds39_says : says (fxCall Try.prog noTab (spTwo (spM [mmF70, mmF71, mmF72, mmF73, mmF74, mmF75, mmF76, mmF77, mmF78, mmF79, mmF710, mmF711, mmF712, mmF713, mmF714, mmF715, mmF716, mmF717, mmF718, mmF719, mmF720, mmF721, mmF722, mmF723, mmF726, mmF730, mmF735, mmF741, mmF748, mmF756, mmF765, mmF775, mmF786, mmF798, mmF7111, mmF7125, mmF7140, mmF7156, mmF7173, mmF7172, mmF7171, mmF7170, mmF7169, mmF7168, mmF7167, mmF7166, mmF7165, mmF7164, mmF7163, mmF7162, mmF7161, mmF7160, mmF7159, mmF7158, mmF7157]) (spKnown 4)) 300 3 [.int .i64 39] 0 .lf) = some true := by kernel_rfl
theorem crowds22_says : says (fxCall Try.prog noTab (spTwo (spM [mmF70, mmF71, mmF72, mmF73, mmF74, mmF75, mmF76, mmF77, mmF78, mmF79, mmF710, mmF711, mmF712, mmF713, mmF714, mmF715, mmF716, mmF717, mmF718, mmF719, mmF720, mmF721]) (spKnown 4)) 300 3 [.int .i64 22] 0 .lf) = some true := by kernel_rfl
theorem crowds19_says : says (fxCall Try.prog noTab (spTwo (spM [mmF70, mmF71, mmF72, mmF73, mmF74, mmF75, mmF76, mmF77, mmF78, mmF79, mmF710, mmF711, mmF712, mmF713, mmF714, mmF715, mmF716, mmF717, mmF718]) (spKnown 4)) 300 3 [.int .i64 19] 0 .lf) = some true := by kernel_rfl
theorem crowds2_says : says (fxCall Try.prog noTab (spTwo (spM [mmF70, mmF71]) (spKnown 4)) 300 3 [.int .i64 2] 0 .lf) = some true := by kernel_rfl
theorem mmF710_chk : chk Try.prog noTab (spKnown 4) 300 mmF710 = true := by kernel_rfl
theorem mmF717_chk : chk Try.prog noTab (spKnown 4) 300 mmF717 = true := by kernel_rfl
theorem mmF741_chk : chk Try.prog noTab (spKnown 4) 300 mmF741 = true := by kernel_rfl
theorem mmF7156_chk : chk Try.prog noTab (spKnown 4) 300 mmF7156 = true := by kernel_rfl
theorem mmF733_chk : chk Try.prog noTab (spKnown 4) 300 mmF733 = true := by kernel_rfl
theorem mmF745_chk : chk Try.prog noTab (spKnown 4) 300 mmF745 = true := by kernel_rfl
theorem mmF757_chk : chk Try.prog noTab (spKnown 4) 300 mmF757 = true := by kernel_rfl
theorem mmF768_chk : chk Try.prog noTab (spKnown 4) 300 mmF768 = true := by kernel_rfl
theorem mmF779_chk : chk Try.prog noTab (spKnown 4) 300 mmF779 = true := by kernel_rfl
theorem mmF790_chk : chk Try.prog noTab (spKnown 4) 300 mmF790 = true := by kernel_rfl
theorem mmF7101_chk : chk Try.prog noTab (spKnown 4) 300 mmF7101 = true := by kernel_rfl
theorem mmF7112_chk : chk Try.prog noTab (spKnown 4) 300 mmF7112 = true := by kernel_rfl
theorem mmF7122_chk : chk Try.prog noTab (spKnown 4) 300 mmF7122 = true := by kernel_rfl
theorem mmF7133_chk : chk Try.prog noTab (spKnown 4) 300 mmF7133 = true := by kernel_rfl
theorem mmF7144_chk : chk Try.prog noTab (spKnown 4) 300 mmF7144 = true := by kernel_rfl
theorem mmF7154_chk : chk Try.prog noTab (spKnown 4) 300 mmF7154 = true := by kernel_rfl
theorem mmF7165_chk : chk Try.prog noTab (spKnown 4) 300 mmF7165 = true := by kernel_rfl
theorem mmF7176_chk : chk Try.prog noTab (spKnown 4) 300 mmF7176 = true := by kernel_rfl
theorem mmF7186_chk : chk Try.prog noTab (spKnown 4) 300 mmF7186 = true := by kernel_rfl
theorem mmF73_chk : chk Try.prog noTab (spKnown 4) 300 mmF73 = true := by kernel_rfl
end Go.Proofs.Ytbpimdohaibmjaa.ev
