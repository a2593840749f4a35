/-
  Calls worked out ahead: checked. Conditions: none.
-/
import Derived.Test.YtbpimdohaibmjaaEvF7Da
import Derived.Test.YtbpimdohaibmjaaEvF7Db
import Derived.Test.YtbpimdohaibmjaaEvF7Dc
import Derived.Test.YtbpimdohaibmjaaEvF7Dd
import Derived.KernelRfl
namespace Go.Proofs.Ytbpimdohaibmjaa.ev
set_option maxRecDepth 1000000
set_option linter.unusedVariables false
theorem crowds37_says : says (fxCall Try.prog noTab (spTwo (spM [mmF70, mmF71, mmF72, mmF73, mmF74, mmF75, mmF76, mmF77, mmF78, mmF79, mmF710, mmF711, mmF712, mmF713, mmF714, mmF715, mmF716, mmF717, mmF718, mmF719, mmF720, mmF721, mmF722, mmF723, mmF726, mmF730, mmF735, mmF741, mmF748, mmF756, mmF765, mmF775, mmF786, mmF798, mmF7111, mmF7125, mmF7140, mmF7139, mmF7138, mmF7137, mmF7136, mmF7135, mmF7134, mmF7133, mmF7132, mmF7131, mmF7130, mmF7129, mmF7128, mmF7127, mmF7126]) (spKnown 4)) 300 3 [.int .i64 37] 0 .lf) = some true := by kernel_rfl
theorem crowds40_says : says (fxCall Try.prog noTab (spTwo (spM [mmF70, mmF71, mmF72, mmF73, mmF74, mmF75, mmF76, mmF77, mmF78, mmF79, mmF710, mmF711, mmF712, mmF713, mmF714, mmF715, mmF716, mmF717, mmF718, mmF719, mmF720, mmF721, mmF722, mmF723, mmF726, mmF730, mmF735, mmF741, mmF748, mmF756, mmF765, mmF775, mmF786, mmF798, mmF7111, mmF7125, mmF7140, mmF7156, mmF7173, mmF7192, mmF7191, mmF7190, mmF7189, mmF7188, mmF7187, mmF7186, mmF7185, mmF7184, mmF7183, mmF7182, mmF7181, mmF7180, mmF7179, mmF7178, mmF7177, mmF7176, mmF7175, mmF7174]) (spKnown 4)) 300 3 [.int .i64 40] 0 .lf) = some true := by kernel_rfl
theorem crowds11_says : says (fxCall Try.prog noTab (spTwo (spM [mmF70, mmF71, mmF72, mmF73, mmF74, mmF75, mmF76, mmF77, mmF78, mmF79, mmF710]) (spKnown 4)) 300 3 [.int .i64 11] 0 .lf) = some true := by kernel_rfl
theorem crowds10_says : says (fxCall Try.prog noTab (spTwo (spM [mmF70, mmF71, mmF72, mmF73, mmF74, mmF75, mmF76, mmF77, mmF78, mmF79]) (spKnown 4)) 300 3 [.int .i64 10] 0 .lf) = some true := by kernel_rfl
theorem mmF721_chk : chk Try.prog noTab (spKnown 4) 300 mmF721 = true := by kernel_rfl
theorem mmF775_chk : chk Try.prog noTab (spKnown 4) 300 mmF775 = true := by kernel_rfl
theorem mmF725_chk : chk Try.prog noTab (spKnown 4) 300 mmF725 = true := by kernel_rfl
theorem mmF738_chk : chk Try.prog noTab (spKnown 4) 300 mmF738 = true := by kernel_rfl
theorem mmF750_chk : chk Try.prog noTab (spKnown 4) 300 mmF750 = true := by kernel_rfl
theorem mmF761_chk : chk Try.prog noTab (spKnown 4) 300 mmF761 = true := by kernel_rfl
theorem mmF772_chk : chk Try.prog noTab (spKnown 4) 300 mmF772 = true := by kernel_rfl
theorem mmF783_chk : chk Try.prog noTab (spKnown 4) 300 mmF783 = true := by kernel_rfl
theorem mmF794_chk : chk Try.prog noTab (spKnown 4) 300 mmF794 = true := by kernel_rfl
theorem mmF7105_chk : chk Try.prog noTab (spKnown 4) 300 mmF7105 = true := by kernel_rfl
theorem mmF7116_chk : chk Try.prog noTab (spKnown 4) 300 mmF7116 = true := by kernel_rfl
theorem mmF7127_chk : chk Try.prog noTab (spKnown 4) 300 mmF7127 = true := by kernel_rfl
theorem mmF7137_chk : chk Try.prog noTab (spKnown 4) 300 mmF7137 = true := by kernel_rfl
theorem mmF7148_chk : chk Try.prog noTab (spKnown 4) 300 mmF7148 = true := by kernel_rfl
theorem mmF7159_chk : chk Try.prog noTab (spKnown 4) 300 mmF7159 = true := by kernel_rfl
theorem mmF7169_chk : chk Try.prog noTab (spKnown 4) 300 mmF7169 = true := by kernel_rfl
theorem mmF7180_chk : chk Try.prog noTab (spKnown 4) 300 mmF7180 = true := by kernel_rfl
theorem mmF7190_chk : chk Try.prog noTab (spKnown 4) 300 mmF7190 = true := by kernel_rfl
end Go.Proofs.Ytbpimdohaibmjaa.ev
