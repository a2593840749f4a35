/-
  Calls worked out ahead: checked. Conditions: none.
-/
import Derived.Test.YtbpimdohaibmjaaEvF7Da
import Derived.Test.YtbpimdohaibmjaaEvF7Db
import Derived.Test.YtbpimdohaibmjaaEvF7Dc
import Derived.Test.YtbpimdohaibmjaaEvF7Dd
import Derived.KernelRfl
namespace Go.Proofs.Ytbpimdohaibmjaa.ev
set_option maxRecDepth 1000000
set_option linter.unusedVariables false
theorem crowds31_says : says (fxCall Try.prog noTab (spTwo (spM [mmF70, mmF71, mmF72, mmF73, mmF74, mmF75, mmF76, mmF77, mmF78, mmF79, mmF710, mmF711, mmF712, mmF713, mmF714, mmF715, mmF716, mmF717, mmF718, mmF719, mmF720, mmF721, mmF722, mmF723, mmF726, mmF730, mmF735, mmF741, mmF748, mmF756, mmF765, mmF764, mmF763, mmF762, mmF761, mmF760, mmF759, mmF758, mmF757]) (spKnown 4)) 300 3 [.int .i64 31] 0 .lf) = some true := by kernel_rfl
theorem crowds30_says : says (fxCall Try.prog noTab (spTwo (spM [mmF70, mmF71, mmF72, mmF73, mmF74, mmF75, mmF76, mmF77, mmF78, mmF79, mmF710, mmF711, mmF712, mmF713, mmF714, mmF715, mmF716, mmF717, mmF718, mmF719, mmF720, mmF721, mmF722, mmF723, mmF726, mmF730, mmF735, mmF741, mmF748, mmF756, mmF755, mmF754, mmF753, mmF752, mmF751, mmF750, mmF749]) (spKnown 4)) 300 3 [.int .i64 30] 0 .lf) = some true := by kernel_rfl
theorem crowds12_says : says (fxCall Try.prog noTab (spTwo (spM [mmF70, mmF71, mmF72, mmF73, mmF74, mmF75, mmF76, mmF77, mmF78, mmF79, mmF710, mmF711]) (spKnown 4)) 300 3 [.int .i64 12] 0 .lf) = some true := by kernel_rfl
theorem crowds9_says : says (fxCall Try.prog noTab (spTwo (spM [mmF70, mmF71, mmF72, mmF73, mmF74, mmF75, mmF76, mmF77, mmF78]) (spKnown 4)) 300 3 [.int .i64 9] 0 .lf) = some true := by kernel_rfl
theorem mmF720_chk : chk Try.prog noTab (spKnown 4) 300 mmF720 = true := by kernel_rfl
theorem mmF765_chk : chk Try.prog noTab (spKnown 4) 300 mmF765 = true := by kernel_rfl
theorem mmF724_chk : chk Try.prog noTab (spKnown 4) 300 mmF724 = true := by kernel_rfl
theorem mmF736_chk : chk Try.prog noTab (spKnown 4) 300 mmF736 = true := by kernel_rfl
theorem mmF747_chk : chk Try.prog noTab (spKnown 4) 300 mmF747 = true := by kernel_rfl
theorem mmF759_chk : chk Try.prog noTab (spKnown 4) 300 mmF759 = true := by kernel_rfl
theorem mmF770_chk : chk Try.prog noTab (spKnown 4) 300 mmF770 = true := by kernel_rfl
theorem mmF781_chk : chk Try.prog noTab (spKnown 4) 300 mmF781 = true := by kernel_rfl
theorem mmF792_chk : chk Try.prog noTab (spKnown 4) 300 mmF792 = true := by kernel_rfl
theorem mmF7103_chk : chk Try.prog noTab (spKnown 4) 300 mmF7103 = true := by kernel_rfl
theorem mmF7114_chk : chk Try.prog noTab (spKnown 4) 300 mmF7114 = true := by kernel_rfl
theorem mmF7124_chk : chk Try.prog noTab (spKnown 4) 300 mmF7124 = true := by kernel_rfl
theorem mmF7135_chk : chk Try.prog noTab (spKnown 4) 300 mmF7135 = true := by kernel_rfl
theorem mmF7146_chk : chk Try.prog noTab (spKnown 4) 300 mmF7146 = true := by kernel_rfl
theorem mmF7157_chk : chk Try.prog noTab (spKnown 4) 300 mmF7157 = true := by kernel_rfl
theorem mmF7167_chk : chk Try.prog noTab (spKnown 4) 300 mmF7167 = true := by kernel_rfl
theorem mmF7178_chk : chk Try.prog noTab (spKnown 4) 300 mmF7178 = true := by kernel_rfl
theorem mmF7188_chk : chk Try.prog noTab (spKnown 4) 300 mmF7188 = true := by kernel_rfl
theorem mmF77_chk : chk Try.prog noTab (spKnown 4) 300 mmF77 = true := by kernel_rfl
end Go.Proofs.Ytbpimdohaibmjaa.ev
