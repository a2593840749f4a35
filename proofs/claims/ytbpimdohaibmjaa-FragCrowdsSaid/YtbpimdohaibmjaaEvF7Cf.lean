/-
  Calls worked out ahead: checked. Conditions: none.
-/
import Derived.Test.YtbpimdohaibmjaaEvF7Da
import Derived.Test.YtbpimdohaibmjaaEvF7Db
import Derived.Test.YtbpimdohaibmjaaEvF7Dc
import Derived.Test.YtbpimdohaibmjaaEvF7Dd
import Derived.KernelRfl
namespace Go.Proofs.Ytbpimdohaibmjaa.ev
set_option maxRecDepth 1000000
set_option linter.unusedVariables false
theorem crowds35_says : says (fxCall Try.prog noTab (spTwo (spM [mmF70, mmF71, mmF72, mmF73, mmF74, mmF75, mmF76, mmF77, mmF78, mmF79, mmF710, mmF711, mmF712, mmF713, mmF714, mmF715, mmF716, mmF717, mmF718, mmF719, mmF720, mmF721, mmF722, mmF723, mmF726, mmF730, mmF735, mmF741, mmF748, mmF756, mmF765, mmF775, mmF786, mmF798, mmF7111, mmF7110, mmF7109, mmF7108, mmF7107, mmF7106, mmF7105, mmF7104, mmF7103, mmF7102, mmF7101, mmF7100, mmF799]) (spKnown 4)) 300 3 [.int .i64 35] 0 .lf) = some true := by kernel_rfl
theorem crowds26_says : says (fxCall Try.prog noTab (spTwo (spM [mmF70, mmF71, mmF72, mmF73, mmF74, mmF75, mmF76, mmF77, mmF78, mmF79, mmF710, mmF711, mmF712, mmF713, mmF714, mmF715, mmF716, mmF717, mmF718, mmF719, mmF720, mmF721, mmF722, mmF723, mmF726, mmF730, mmF729, mmF728, mmF727]) (spKnown 4)) 300 3 [.int .i64 26] 0 .lf) = some true := by kernel_rfl
theorem crowds16_says : says (fxCall Try.prog noTab (spTwo (spM [mmF70, mmF71, mmF72, mmF73, mmF74, mmF75, mmF76, mmF77, mmF78, mmF79, mmF710, mmF711, mmF712, mmF713, mmF714, mmF715]) (spKnown 4)) 300 3 [.int .i64 16] 0 .lf) = some true := by kernel_rfl
theorem crowds5_says : says (fxCall Try.prog noTab (spTwo (spM [mmF70, mmF71, mmF72, mmF73, mmF74]) (spKnown 4)) 300 3 [.int .i64 5] 0 .lf) = some true := by kernel_rfl
theorem mmF711_chk : chk Try.prog noTab (spKnown 4) 300 mmF711 = true := by kernel_rfl
theorem mmF718_chk : chk Try.prog noTab (spKnown 4) 300 mmF718 = true := by kernel_rfl
theorem mmF748_chk : chk Try.prog noTab (spKnown 4) 300 mmF748 = true := by kernel_rfl
theorem mmF7173_chk : chk Try.prog noTab (spKnown 4) 300 mmF7173 = true := by kernel_rfl
theorem mmF734_chk : chk Try.prog noTab (spKnown 4) 300 mmF734 = true := by kernel_rfl
theorem mmF746_chk : chk Try.prog noTab (spKnown 4) 300 mmF746 = true := by kernel_rfl
theorem mmF758_chk : chk Try.prog noTab (spKnown 4) 300 mmF758 = true := by kernel_rfl
theorem mmF769_chk : chk Try.prog noTab (spKnown 4) 300 mmF769 = true := by kernel_rfl
theorem mmF780_chk : chk Try.prog noTab (spKnown 4) 300 mmF780 = true := by kernel_rfl
theorem mmF791_chk : chk Try.prog noTab (spKnown 4) 300 mmF791 = true := by kernel_rfl
theorem mmF7102_chk : chk Try.prog noTab (spKnown 4) 300 mmF7102 = true := by kernel_rfl
theorem mmF7113_chk : chk Try.prog noTab (spKnown 4) 300 mmF7113 = true := by kernel_rfl
theorem mmF7123_chk : chk Try.prog noTab (spKnown 4) 300 mmF7123 = true := by kernel_rfl
theorem mmF7134_chk : chk Try.prog noTab (spKnown 4) 300 mmF7134 = true := by kernel_rfl
theorem mmF7145_chk : chk Try.prog noTab (spKnown 4) 300 mmF7145 = true := by kernel_rfl
theorem mmF7155_chk : chk Try.prog noTab (spKnown 4) 300 mmF7155 = true := by kernel_rfl
theorem mmF7166_chk : chk Try.prog noTab (spKnown 4) 300 mmF7166 = true := by kernel_rfl
theorem mmF7177_chk : chk Try.prog noTab (spKnown 4) 300 mmF7177 = true := by kernel_rfl
theorem mmF7187_chk : chk Try.prog noTab (spKnown 4) 300 mmF7187 = true := by kernel_rfl
theorem mmF76_chk : chk Try.prog noTab (spKnown 4) 300 mmF76 = true := by kernel_rfl
end Go.Proofs.Ytbpimdohaibmjaa.ev
