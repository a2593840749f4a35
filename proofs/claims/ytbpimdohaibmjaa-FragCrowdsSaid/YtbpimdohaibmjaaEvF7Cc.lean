/-
  Calls worked out ahead: checked. Conditions: none.
-/
import Derived.Test.YtbpimdohaibmjaaEvF7Da
import Derived.Test.YtbpimdohaibmjaaEvF7Db
import Derived.Test.YtbpimdohaibmjaaEvF7Dc
import Derived.Test.YtbpimdohaibmjaaEvF7Dd
import Derived.KernelRfl
namespace Go.Proofs.Ytbpimdohaibmjaa.ev
set_option maxRecDepth 1000000
set_option linter.unusedVariables false
theorem crowds38_says : says (fxCall Try.prog noTab (spTwo (spM [mmF70, mmF71, mmF72, mmF73, mmF74, mmF75, mmF76, mmF77, mmF78, mmF79, mmF710, mmF711, mmF712, mmF713, mmF714, mmF715, mmF716, mmF717, mmF718, mmF719, mmF720, mmF721, mmF722, mmF723, mmF726, mmF730, mmF735, mmF741, mmF748, mmF756, mmF765, mmF775, mmF786, mmF798, mmF7111, mmF7125, mmF7140, mmF7156, mmF7155, mmF7154, mmF7153, mmF7152, mmF7151, mmF7150, mmF7149, mmF7148, mmF7147, mmF7146, mmF7145, mmF7144, mmF7143, mmF7142, mmF7141]) (spKnown 4)) 300 3 [.int .i64 38] 0 .lf) = some true := by kernel_rfl
theorem crowds23_says : says (fxCall Try.prog noTab (spTwo (spM [mmF70, mmF71, mmF72, mmF73, mmF74, mmF75, mmF76, mmF77, mmF78, mmF79, mmF710, mmF711, mmF712, mmF713, mmF714, mmF715, mmF716, mmF717, mmF718, mmF719, mmF720, mmF721, mmF722]) (spKnown 4)) 300 3 [.int .i64 23] 0 .lf) = some true := by kernel_rfl
theorem crowds18_says : says (fxCall Try.prog noTab (spTwo (spM [mmF70, mmF71, mmF72, mmF73, mmF74, mmF75, mmF76, mmF77, mmF78, mmF79, mmF710, mmF711, mmF712, mmF713, mmF714, mmF715, mmF716, mmF717]) (spKnown 4)) 300 3 [.int .i64 18] 0 .lf) = some true := by kernel_rfl
theorem crowds3_says : says (fxCall Try.prog noTab (spTwo (spM [mmF70, mmF71, mmF72]) (spKnown 4)) 300 3 [.int .i64 3] 0 .lf) = some true := by kernel_rfl
theorem mmF715_chk : chk Try.prog noTab (spKnown 4) 300 mmF715 = true := by kernel_rfl
theorem mmF730_chk : chk Try.prog noTab (spKnown 4) 300 mmF730 = true := by kernel_rfl
theorem mmF7125_chk : chk Try.prog noTab (spKnown 4) 300 mmF7125 = true := by kernel_rfl
theorem mmF731_chk : chk Try.prog noTab (spKnown 4) 300 mmF731 = true := by kernel_rfl
theorem mmF743_chk : chk Try.prog noTab (spKnown 4) 300 mmF743 = true := by kernel_rfl
theorem mmF754_chk : chk Try.prog noTab (spKnown 4) 300 mmF754 = true := by kernel_rfl
theorem mmF766_chk : chk Try.prog noTab (spKnown 4) 300 mmF766 = true := by kernel_rfl
theorem mmF777_chk : chk Try.prog noTab (spKnown 4) 300 mmF777 = true := by kernel_rfl
theorem mmF788_chk : chk Try.prog noTab (spKnown 4) 300 mmF788 = true := by kernel_rfl
theorem mmF799_chk : chk Try.prog noTab (spKnown 4) 300 mmF799 = true := by kernel_rfl
theorem mmF7109_chk : chk Try.prog noTab (spKnown 4) 300 mmF7109 = true := by kernel_rfl
theorem mmF7120_chk : chk Try.prog noTab (spKnown 4) 300 mmF7120 = true := by kernel_rfl
theorem mmF7131_chk : chk Try.prog noTab (spKnown 4) 300 mmF7131 = true := by kernel_rfl
theorem mmF7142_chk : chk Try.prog noTab (spKnown 4) 300 mmF7142 = true := by kernel_rfl
theorem mmF7152_chk : chk Try.prog noTab (spKnown 4) 300 mmF7152 = true := by kernel_rfl
theorem mmF7163_chk : chk Try.prog noTab (spKnown 4) 300 mmF7163 = true := by kernel_rfl
theorem mmF7174_chk : chk Try.prog noTab (spKnown 4) 300 mmF7174 = true := by kernel_rfl
theorem mmF7184_chk : chk Try.prog noTab (spKnown 4) 300 mmF7184 = true := by kernel_rfl
theorem mmF71_chk : chk Try.prog noTab (spKnown 4) 300 mmF71 = true := by kernel_rfl
theorem mmF75_chk : chk Try.prog noTab (spKnown 4) 300 mmF75 = true := by kernel_rfl
end Go.Proofs.Ytbpimdohaibmjaa.ev
