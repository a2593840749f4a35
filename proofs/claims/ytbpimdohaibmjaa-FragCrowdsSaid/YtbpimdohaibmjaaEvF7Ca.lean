/-
  Calls worked out ahead: checked. Conditions: none.
-/
import Derived.Test.YtbpimdohaibmjaaEvF7Da
import Derived.Test.YtbpimdohaibmjaaEvF7Db
import Derived.Test.YtbpimdohaibmjaaEvF7Dc
import Derived.Test.YtbpimdohaibmjaaEvF7Dd
import Derived.KernelRfl
namespace Go.Proofs.Ytbpimdohaibmjaa.ev
set_option maxRecDepth 1000000
set_option linter.unusedVariables false
theorem crowds24_says : says (fxCall Try.prog noTab (spTwo (spM [mmF70, mmF71, mmF72, mmF73, mmF74, mmF75, mmF76, mmF77, mmF78, mmF79, mmF710, mmF711, mmF712, mmF713, mmF714, mmF715, mmF716, mmF717, mmF718, mmF719, mmF720, mmF721, mmF722, mmF723]) (spKnown 4)) 300 3 [.int .i64 24] 0 .lf) = some true := by kernel_rfl
theorem crowds21_says : says (fxCall Try.prog noTab (spTwo (spM [mmF70, mmF71, mmF72, mmF73, mmF74, mmF75, mmF76, mmF77, mmF78, mmF79, mmF710, mmF711, mmF712, mmF713, mmF714, mmF715, mmF716, mmF717, mmF718, mmF719, mmF720]) (spKnown 4)) 300 3 [.int .i64 21] 0 .lf) = some true := by kernel_rfl
theorem crowds20_says : says (fxCall Try.prog noTab (spTwo (spM [mmF70, mmF71, mmF72, mmF73, mmF74, mmF75, mmF76, mmF77, mmF78, mmF79, mmF710, mmF711, mmF712, mmF713, mmF714, mmF715, mmF716, mmF717, mmF718, mmF719]) (spKnown 4)) 300 3 [.int .i64 20] 0 .lf) = some true := by kernel_rfl
theorem mmF78_chk : chk Try.prog noTab (spKnown 4) 300 mmF78 = true := by kernel_rfl
theorem mmF79_chk : chk Try.prog noTab (spKnown 4) 300 mmF79 = true := by kernel_rfl
theorem mmF714_chk : chk Try.prog noTab (spKnown 4) 300 mmF714 = true := by kernel_rfl
theorem mmF726_chk : chk Try.prog noTab (spKnown 4) 300 mmF726 = true := by kernel_rfl
theorem mmF7111_chk : chk Try.prog noTab (spKnown 4) 300 mmF7111 = true := by kernel_rfl
theorem mmF729_chk : chk Try.prog noTab (spKnown 4) 300 mmF729 = true := by kernel_rfl
theorem mmF742_chk : chk Try.prog noTab (spKnown 4) 300 mmF742 = true := by kernel_rfl
theorem mmF753_chk : chk Try.prog noTab (spKnown 4) 300 mmF753 = true := by kernel_rfl
theorem mmF764_chk : chk Try.prog noTab (spKnown 4) 300 mmF764 = true := by kernel_rfl
theorem mmF776_chk : chk Try.prog noTab (spKnown 4) 300 mmF776 = true := by kernel_rfl
theorem mmF787_chk : chk Try.prog noTab (spKnown 4) 300 mmF787 = true := by kernel_rfl
theorem mmF797_chk : chk Try.prog noTab (spKnown 4) 300 mmF797 = true := by kernel_rfl
theorem mmF7108_chk : chk Try.prog noTab (spKnown 4) 300 mmF7108 = true := by kernel_rfl
theorem mmF7119_chk : chk Try.prog noTab (spKnown 4) 300 mmF7119 = true := by kernel_rfl
theorem mmF7130_chk : chk Try.prog noTab (spKnown 4) 300 mmF7130 = true := by kernel_rfl
theorem mmF7141_chk : chk Try.prog noTab (spKnown 4) 300 mmF7141 = true := by kernel_rfl
theorem mmF7151_chk : chk Try.prog noTab (spKnown 4) 300 mmF7151 = true := by kernel_rfl
theorem mmF7162_chk : chk Try.prog noTab (spKnown 4) 300 mmF7162 = true := by kernel_rfl
theorem mmF7172_chk : chk Try.prog noTab (spKnown 4) 300 mmF7172 = true := by kernel_rfl
theorem mmF7183_chk : chk Try.prog noTab (spKnown 4) 300 mmF7183 = true := by kernel_rfl
theorem mmF70_chk : chk Try.prog noTab (spKnown 4) 300 mmF70 = true := by kernel_rfl
theorem mmF74_chk : chk Try.prog noTab (spKnown 4) 300 mmF74 = true := by kernel_rfl
end Go.Proofs.Ytbpimdohaibmjaa.ev
