/-
  Calls worked out ahead: checked. Conditions: none.
-/
import Derived.Test.YtbpimdohaibmjaaEvF7Da
import Derived.Test.YtbpimdohaibmjaaEvF7Db
import Derived.Test.YtbpimdohaibmjaaEvF7Dc
import Derived.Test.YtbpimdohaibmjaaEvF7Dd
import Derived.KernelRfl
namespace Go.Proofs.Ytbpimdohaibmjaa.ev
set_option maxRecDepth 1000000
set_option linter.unusedVariables false
theorem crowds33_says : says (fxCall Try.prog noTab (spTwo (spM [mmF70, mmF71, mmF72, mmF73, mmF74, mmF75, mmF76, mmF77, mmF78, mmF79, mmF710, mmF711, mmF712, mmF713, mmF714, mmF715, mmF716, mmF717, mmF718, mmF719, mmF720, mmF721, mmF722, mmF723, mmF726, mmF730, mmF735, mmF741, mmF748, mmF756, mmF765, mmF775, mmF786, mmF785, mmF784, mmF783, mmF782, mmF781, mmF780, mmF779, mmF778, mmF777, mmF776]) (spKnown 4)) 300 3 [.int .i64 33] 0 .lf) = some true := by kernel_rfl
theorem crowds28_says : says (fxCall Try.prog noTab (spTwo (spM [mmF70, mmF71, mmF72, mmF73, mmF74, mmF75, mmF76, mmF77, mmF78, mmF79, mmF710, mmF711, mmF712, mmF713, mmF714, mmF715, mmF716, mmF717, mmF718, mmF719, mmF720, mmF721, mmF722, mmF723, mmF726, mmF730, mmF735, mmF741, mmF740, mmF739, mmF738, mmF737, mmF736]) (spKnown 4)) 300 3 [.int .i64 28] 0 .lf) = some true := by kernel_rfl
theorem crowds14_says : says (fxCall Try.prog noTab (spTwo (spM [mmF70, mmF71, mmF72, mmF73, mmF74, mmF75, mmF76, mmF77, mmF78, mmF79, mmF710, mmF711, mmF712, mmF713]) (spKnown 4)) 300 3 [.int .i64 14] 0 .lf) = some true := by kernel_rfl
theorem crowds7_says : says (fxCall Try.prog noTab (spTwo (spM [mmF70, mmF71, mmF72, mmF73, mmF74, mmF75, mmF76]) (spKnown 4)) 300 3 [.int .i64 7] 0 .lf) = some true := by kernel_rfl
theorem mmF716_chk : chk Try.prog noTab (spKnown 4) 300 mmF716 = true := by kernel_rfl
theorem mmF735_chk : chk Try.prog noTab (spKnown 4) 300 mmF735 = true := by kernel_rfl
theorem mmF7140_chk : chk Try.prog noTab (spKnown 4) 300 mmF7140 = true := by kernel_rfl
theorem mmF732_chk : chk Try.prog noTab (spKnown 4) 300 mmF732 = true := by kernel_rfl
theorem mmF744_chk : chk Try.prog noTab (spKnown 4) 300 mmF744 = true := by kernel_rfl
theorem mmF755_chk : chk Try.prog noTab (spKnown 4) 300 mmF755 = true := by kernel_rfl
theorem mmF767_chk : chk Try.prog noTab (spKnown 4) 300 mmF767 = true := by kernel_rfl
theorem mmF778_chk : chk Try.prog noTab (spKnown 4) 300 mmF778 = true := by kernel_rfl
theorem mmF789_chk : chk Try.prog noTab (spKnown 4) 300 mmF789 = true := by kernel_rfl
theorem mmF7100_chk : chk Try.prog noTab (spKnown 4) 300 mmF7100 = true := by kernel_rfl
theorem mmF7110_chk : chk Try.prog noTab (spKnown 4) 300 mmF7110 = true := by kernel_rfl
theorem mmF7121_chk : chk Try.prog noTab (spKnown 4) 300 mmF7121 = true := by kernel_rfl
theorem mmF7132_chk : chk Try.prog noTab (spKnown 4) 300 mmF7132 = true := by kernel_rfl
theorem mmF7143_chk : chk Try.prog noTab (spKnown 4) 300 mmF7143 = true := by kernel_rfl
theorem mmF7153_chk : chk Try.prog noTab (spKnown 4) 300 mmF7153 = true := by kernel_rfl
theorem mmF7164_chk : chk Try.prog noTab (spKnown 4) 300 mmF7164 = true := by kernel_rfl
theorem mmF7175_chk : chk Try.prog noTab (spKnown 4) 300 mmF7175 = true := by kernel_rfl
theorem mmF7185_chk : chk Try.prog noTab (spKnown 4) 300 mmF7185 = true := by kernel_rfl
theorem mmF72_chk : chk Try.prog noTab (spKnown 4) 300 mmF72 = true := by kernel_rfl
end Go.Proofs.Ytbpimdohaibmjaa.ev
