/-
  Calls worked out ahead: checked. Conditions: none.
-/
import Derived.Test.YtbpimdohaibmjaaEvF7Da
import Derived.Test.YtbpimdohaibmjaaEvF7Db
import Derived.Test.YtbpimdohaibmjaaEvF7Dc
import Derived.Test.YtbpimdohaibmjaaEvF7Dd
import Derived.KernelRfl
namespace Go.Proofs.Ytbpimdohaibmjaa.ev
set_option maxRecDepth 1000000
set_option linter.unusedVariables false
theorem crowds32_says : says (fxCall Try.prog noTab (spTwo (spM [mmF70, mmF71, mmF72, mmF73, mmF74, mmF75, mmF76, mmF77, mmF78, mmF79, mmF710, mmF711, mmF712, mmF713, mmF714, mmF715, mmF716, mmF717, mmF718, mmF719, mmF720, mmF721, mmF722, mmF723, mmF726, mmF730, mmF735, mmF741, mmF748, mmF756, mmF765, mmF775, mmF774, mmF773, mmF772, mmF771, mmF770, mmF769, mmF768, mmF767, mmF766]) (spKnown 4)) 300 3 [.int .i64 32] 0 .lf) = some true := by kernel_rfl
theorem crowds29_says : says (fxCall Try.prog noTab (spTwo (spM [mmF70, mmF71, mmF72, mmF73, mmF74, mmF75, mmF76, mmF77, mmF78, mmF79, mmF710, mmF711, mmF712, mmF713, mmF714, mmF715, mmF716, mmF717, mmF718, mmF719, mmF720, mmF721, mmF722, mmF723, mmF726, mmF730, mmF735, mmF741, mmF748, mmF747, mmF746, mmF745, mmF744, mmF743, mmF742]) (spKnown 4)) 300 3 [.int .i64 29] 0 .lf) = some true := by kernel_rfl
theorem crowds13_says : says (fxCall Try.prog noTab (spTwo (spM [mmF70, mmF71, mmF72, mmF73, mmF74, mmF75, mmF76, mmF77, mmF78, mmF79, mmF710, mmF711, mmF712]) (spKnown 4)) 300 3 [.int .i64 13] 0 .lf) = some true := by kernel_rfl
theorem crowds8_says : says (fxCall Try.prog noTab (spTwo (spM [mmF70, mmF71, mmF72, mmF73, mmF74, mmF75, mmF76, mmF77]) (spKnown 4)) 300 3 [.int .i64 8] 0 .lf) = some true := by kernel_rfl
theorem mmF719_chk : chk Try.prog noTab (spKnown 4) 300 mmF719 = true := by kernel_rfl
theorem mmF756_chk : chk Try.prog noTab (spKnown 4) 300 mmF756 = true := by kernel_rfl
theorem mmF7192_chk : chk Try.prog noTab (spKnown 4) 300 mmF7192 = true := by kernel_rfl
theorem mmF737_chk : chk Try.prog noTab (spKnown 4) 300 mmF737 = true := by kernel_rfl
theorem mmF749_chk : chk Try.prog noTab (spKnown 4) 300 mmF749 = true := by kernel_rfl
theorem mmF760_chk : chk Try.prog noTab (spKnown 4) 300 mmF760 = true := by kernel_rfl
theorem mmF771_chk : chk Try.prog noTab (spKnown 4) 300 mmF771 = true := by kernel_rfl
theorem mmF782_chk : chk Try.prog noTab (spKnown 4) 300 mmF782 = true := by kernel_rfl
theorem mmF793_chk : chk Try.prog noTab (spKnown 4) 300 mmF793 = true := by kernel_rfl
theorem mmF7104_chk : chk Try.prog noTab (spKnown 4) 300 mmF7104 = true := by kernel_rfl
theorem mmF7115_chk : chk Try.prog noTab (spKnown 4) 300 mmF7115 = true := by kernel_rfl
theorem mmF7126_chk : chk Try.prog noTab (spKnown 4) 300 mmF7126 = true := by kernel_rfl
theorem mmF7136_chk : chk Try.prog noTab (spKnown 4) 300 mmF7136 = true := by kernel_rfl
theorem mmF7147_chk : chk Try.prog noTab (spKnown 4) 300 mmF7147 = true := by kernel_rfl
theorem mmF7158_chk : chk Try.prog noTab (spKnown 4) 300 mmF7158 = true := by kernel_rfl
theorem mmF7168_chk : chk Try.prog noTab (spKnown 4) 300 mmF7168 = true := by kernel_rfl
theorem mmF7179_chk : chk Try.prog noTab (spKnown 4) 300 mmF7179 = true := by kernel_rfl
theorem mmF7189_chk : chk Try.prog noTab (spKnown 4) 300 mmF7189 = true := by kernel_rfl
theorem crowds0_says : says (fxCall Try.prog noTab (spKnown 4) 300 3 [.int .i64 0] 0 .lf) = some true := by kernel_rfl
end Go.Proofs.Ytbpimdohaibmjaa.ev
