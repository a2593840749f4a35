/-
  Calls worked out ahead: checked. Conditions: none.
-/
import Derived.Test.YtbpimdohaibmjaaEvF7Da
import Derived.Test.YtbpimdohaibmjaaEvF7Db
import Derived.Test.YtbpimdohaibmjaaEvF7Dc
import Derived.Test.YtbpimdohaibmjaaEvF7Dd
import Derived.KernelRfl
namespace Go.Proofs.Ytbpimdohaibmjaa.ev
set_option maxRecDepth 1000000
set_option linter.unusedVariables false
theorem crowds34_says : says (fxCall Try.prog noTab (spTwo (spM [mmF70, mmF71, mmF72, mmF73, mmF74, mmF75, mmF76, mmF77, mmF78, mmF79, mmF710, mmF711, mmF712, mmF713, mmF714, mmF715, mmF716, mmF717, mmF718, mmF719, mmF720, mmF721, mmF722, mmF723, mmF726, mmF730, mmF735, mmF741, mmF748, mmF756, mmF765, mmF775, mmF786, mmF798, mmF797, mmF796, mmF795, mmF794, mmF793, mmF792, mmF791, mmF790, mmF789, mmF788, mmF787]) (spKnown 4)) 300 3 [.int .i64 34] 0 .lf) = some true := by kernel_rfl
theorem crowds27_says : says (fxCall Try.prog noTab (spTwo (spM [mmF70, mmF71, mmF72, mmF73, mmF74, mmF75, mmF76, mmF77, mmF78, mmF79, mmF710, mmF711, mmF712, mmF713, mmF714, mmF715, mmF716, mmF717, mmF718, mmF719, mmF720, mmF721, mmF722, mmF723, mmF726, mmF730, mmF735, mmF734, mmF733, mmF732, mmF731]) (spKnown 4)) 300 3 [.int .i64 27] 0 .lf) = some true := by kernel_rfl
theorem crowds15_says : says (fxCall Try.prog noTab (spTwo (spM [mmF70, mmF71, mmF72, mmF73, mmF74, mmF75, mmF76, mmF77, mmF78, mmF79, mmF710, mmF711, mmF712, mmF713, mmF714]) (spKnown 4)) 300 3 [.int .i64 15] 0 .lf) = some true := by kernel_rfl
theorem crowds6_says : says (fxCall Try.prog noTab (spTwo (spM [mmF70, mmF71, mmF72, mmF73, mmF74, mmF75]) (spKnown 4)) 300 3 [.int .i64 6] 0 .lf) = some true := by kernel_rfl
theorem mmF713_chk : chk Try.prog noTab (spKnown 4) 300 mmF713 = true := by kernel_rfl
theorem mmF723_chk : chk Try.prog noTab (spKnown 4) 300 mmF723 = true := by kernel_rfl
theorem mmF798_chk : chk Try.prog noTab (spKnown 4) 300 mmF798 = true := by kernel_rfl
theorem mmF728_chk : chk Try.prog noTab (spKnown 4) 300 mmF728 = true := by kernel_rfl
theorem mmF740_chk : chk Try.prog noTab (spKnown 4) 300 mmF740 = true := by kernel_rfl
theorem mmF752_chk : chk Try.prog noTab (spKnown 4) 300 mmF752 = true := by kernel_rfl
theorem mmF763_chk : chk Try.prog noTab (spKnown 4) 300 mmF763 = true := by kernel_rfl
theorem mmF774_chk : chk Try.prog noTab (spKnown 4) 300 mmF774 = true := by kernel_rfl
theorem mmF785_chk : chk Try.prog noTab (spKnown 4) 300 mmF785 = true := by kernel_rfl
theorem mmF796_chk : chk Try.prog noTab (spKnown 4) 300 mmF796 = true := by kernel_rfl
theorem mmF7107_chk : chk Try.prog noTab (spKnown 4) 300 mmF7107 = true := by kernel_rfl
theorem mmF7118_chk : chk Try.prog noTab (spKnown 4) 300 mmF7118 = true := by kernel_rfl
theorem mmF7129_chk : chk Try.prog noTab (spKnown 4) 300 mmF7129 = true := by kernel_rfl
theorem mmF7139_chk : chk Try.prog noTab (spKnown 4) 300 mmF7139 = true := by kernel_rfl
theorem mmF7150_chk : chk Try.prog noTab (spKnown 4) 300 mmF7150 = true := by kernel_rfl
theorem mmF7161_chk : chk Try.prog noTab (spKnown 4) 300 mmF7161 = true := by kernel_rfl
theorem mmF7171_chk : chk Try.prog noTab (spKnown 4) 300 mmF7171 = true := by kernel_rfl
theorem mmF7182_chk : chk Try.prog noTab (spKnown 4) 300 mmF7182 = true := by kernel_rfl
theorem crowds1_says : says (fxCall Try.prog noTab (spTwo (spM [mmF70]) (spKnown 4)) 300 3 [.int .i64 1] 0 .lf) = some true := by kernel_rfl
end Go.Proofs.Ytbpimdohaibmjaa.ev
