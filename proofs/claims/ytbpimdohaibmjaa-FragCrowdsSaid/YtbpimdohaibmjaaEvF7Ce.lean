/-
  Calls worked out ahead: checked. Conditions: none.
-/
import Derived.Test.YtbpimdohaibmjaaEvF7Da
import Derived.Test.YtbpimdohaibmjaaEvF7Db
import Derived.Test.YtbpimdohaibmjaaEvF7Dc
import Derived.Test.YtbpimdohaibmjaaEvF7Dd
import Derived.KernelRfl
namespace Go.Proofs.Ytbpimdohaibmjaa.ev
set_option maxRecDepth 1000000
set_option linter.unusedVariables false
theorem crowds36_says : says (fxCall Try.prog noTab (spTwo (spM [mmF70, mmF71, mmF72, mmF73, mmF74, mmF75, mmF76, mmF77, mmF78, mmF79, mmF710, mmF711, mmF712, mmF713, mmF714, mmF715, mmF716, mmF717, mmF718, mmF719, mmF720, mmF721, mmF722, mmF723, mmF726, mmF730, mmF735, mmF741, mmF748, mmF756, mmF765, mmF775, mmF786, mmF798, mmF7111, mmF7125, mmF7124, mmF7123, mmF7122, mmF7121, mmF7120, mmF7119, mmF7118, mmF7117, mmF7116, mmF7115, mmF7114, mmF7113, mmF7112]) (spKnown 4)) 300 3 [.int .i64 36] 0 .lf) = some true := by kernel_rfl
theorem crowds25_says : says (fxCall Try.prog noTab (spTwo (spM [mmF70, mmF71, mmF72, mmF73, mmF74, mmF75, mmF76, mmF77, mmF78, mmF79, mmF710, mmF711, mmF712, mmF713, mmF714, mmF715, mmF716, mmF717, mmF718, mmF719, mmF720, mmF721, mmF722, mmF723, mmF726, mmF725, mmF724]) (spKnown 4)) 300 3 [.int .i64 25] 0 .lf) = some true := by kernel_rfl
theorem crowds17_says : says (fxCall Try.prog noTab (spTwo (spM [mmF70, mmF71, mmF72, mmF73, mmF74, mmF75, mmF76, mmF77, mmF78, mmF79, mmF710, mmF711, mmF712, mmF713, mmF714, mmF715, mmF716]) (spKnown 4)) 300 3 [.int .i64 17] 0 .lf) = some true := by kernel_rfl
theorem crowds4_says : says (fxCall Try.prog noTab (spTwo (spM [mmF70, mmF71, mmF72, mmF73]) (spKnown 4)) 300 3 [.int .i64 4] 0 .lf) = some true := by kernel_rfl
theorem mmF712_chk : chk Try.prog noTab (spKnown 4) 300 mmF712 = true := by kernel_rfl
theorem mmF722_chk : chk Try.prog noTab (spKnown 4) 300 mmF722 = true := by kernel_rfl
theorem mmF786_chk : chk Try.prog noTab (spKnown 4) 300 mmF786 = true := by kernel_rfl
theorem mmF727_chk : chk Try.prog noTab (spKnown 4) 300 mmF727 = true := by kernel_rfl
theorem mmF739_chk : chk Try.prog noTab (spKnown 4) 300 mmF739 = true := by kernel_rfl
theorem mmF751_chk : chk Try.prog noTab (spKnown 4) 300 mmF751 = true := by kernel_rfl
theorem mmF762_chk : chk Try.prog noTab (spKnown 4) 300 mmF762 = true := by kernel_rfl
theorem mmF773_chk : chk Try.prog noTab (spKnown 4) 300 mmF773 = true := by kernel_rfl
theorem mmF784_chk : chk Try.prog noTab (spKnown 4) 300 mmF784 = true := by kernel_rfl
theorem mmF795_chk : chk Try.prog noTab (spKnown 4) 300 mmF795 = true := by kernel_rfl
theorem mmF7106_chk : chk Try.prog noTab (spKnown 4) 300 mmF7106 = true := by kernel_rfl
theorem mmF7117_chk : chk Try.prog noTab (spKnown 4) 300 mmF7117 = true := by kernel_rfl
theorem mmF7128_chk : chk Try.prog noTab (spKnown 4) 300 mmF7128 = true := by kernel_rfl
theorem mmF7138_chk : chk Try.prog noTab (spKnown 4) 300 mmF7138 = true := by kernel_rfl
theorem mmF7149_chk : chk Try.prog noTab (spKnown 4) 300 mmF7149 = true := by kernel_rfl
theorem mmF7160_chk : chk Try.prog noTab (spKnown 4) 300 mmF7160 = true := by kernel_rfl
theorem mmF7170_chk : chk Try.prog noTab (spKnown 4) 300 mmF7170 = true := by kernel_rfl
theorem mmF7181_chk : chk Try.prog noTab (spKnown 4) 300 mmF7181 = true := by kernel_rfl
theorem mmF7191_chk : chk Try.prog noTab (spKnown 4) 300 mmF7191 = true := by kernel_rfl
end Go.Proofs.Ytbpimdohaibmjaa.ev
