/-
  Calls worked out ahead: checked. Conditions: none.
-/
import Derived.Test.YtdfnjcbgakmibaaGreatEvW7Da
import Derived.Test.YtdfnjcbgakmibaaGreatEvW7Db
import Derived.KernelRfl
namespace Go.Proofs.YtdfnjcbgakmibaaGreat.ev
set_option maxRecDepth 1000000
set_option linter.unusedVariables false
theorem waits_false_38_says : says (fxCall Tryz.prog noTab (spTwo (spM [mmW73, mmW71, mmW70, mmW74, mmW75, mmW76, mmW77, mmW78, mmW79, mmW710, mmW711, mmW712, mmW713, mmW714, mmW715, mmW716, mmW717, mmW718, mmW719, mmW720, mmW721, mmW722, mmW723, mmW724, mmW725, mmW726, mmW727, mmW728, mmW729, mmW730, mmW731, mmW732, mmW733, mmW734, mmW735, mmW736, mmW737, mmW738, mmW739]) (spTwo (spSum [(90, true), (104, false)] []) (spKnown 16))) 300 4 [.int .i64 38, .bool false] 0 .lf) = some true := by kernel_rfl
theorem waits_false_23_says : says (fxCall Tryz.prog noTab (spTwo (spM [mmW73, mmW71, mmW70, mmW74, mmW75, mmW76, mmW77, mmW78, mmW79, mmW710, mmW711, mmW712, mmW713, mmW714, mmW715, mmW716, mmW717, mmW718, mmW719, mmW720, mmW721, mmW722, mmW723, mmW724]) (spTwo (spSum [(90, true), (104, false)] []) (spKnown 16))) 300 4 [.int .i64 23, .bool false] 0 .lf) = some true := by kernel_rfl
theorem waits_false_22_says : says (fxCall Tryz.prog noTab (spTwo (spM [mmW73, mmW71, mmW70, mmW74, mmW75, mmW76, mmW77, mmW78, mmW79, mmW710, mmW711, mmW712, mmW713, mmW714, mmW715, mmW716, mmW717, mmW718, mmW719, mmW720, mmW721, mmW722, mmW723]) (spTwo (spSum [(90, true), (104, false)] []) (spKnown 16))) 300 4 [.int .i64 22, .bool false] 0 .lf) = some true := by kernel_rfl
theorem waits_false_7_says : says (fxCall Tryz.prog noTab (spTwo (spM [mmW73, mmW71, mmW70, mmW74, mmW75, mmW76, mmW77, mmW78]) (spTwo (spSum [(90, true), (104, false)] []) (spKnown 16))) 300 4 [.int .i64 7, .bool false] 0 .lf) = some true := by kernel_rfl
theorem waits_false_6_says : says (fxCall Tryz.prog noTab (spTwo (spM [mmW73, mmW71, mmW70, mmW74, mmW75, mmW76, mmW77]) (spTwo (spSum [(90, true), (104, false)] []) (spKnown 16))) 300 4 [.int .i64 6, .bool false] 0 .lf) = some true := by kernel_rfl
theorem waits_false_42_says : says (fxCall Tryz.prog noTab (spTwo (spM [mmW73, mmW71, mmW70, mmW74, mmW75, mmW76, mmW77, mmW78, mmW79, mmW710, mmW711, mmW712, mmW713, mmW714, mmW715, mmW716, mmW717, mmW718, mmW719, mmW720, mmW721, mmW722, mmW723, mmW724, mmW725, mmW726, mmW727, mmW728, mmW729, mmW730, mmW731, mmW732, mmW733, mmW734, mmW735, mmW736, mmW737, mmW738, mmW739, mmW741, mmW743, mmW745, mmW747, mmW746]) (spTwo (spSum [(90, true), (104, false)] []) (spKnown 16))) 300 4 [.int .i64 42, .bool false] 0 .lf) = some true := by kernel_rfl
theorem mmW740_chk : chk Tryz.prog noTab (spTwo (spSum [(90, true), (104, false)] []) (spKnown 16)) 300 mmW740 = true := by kernel_rfl
theorem mmW752_chk : chk Tryz.prog noTab (spTwo (spSum [(90, true), (104, false)] []) (spKnown 16)) 300 mmW752 = true := by kernel_rfl
theorem waits_true_49_says : says (fxCall Tryz.prog noTab (spTwo (spM [mmW766, mmW765, mmW764, mmW767, mmW768, mmW769, mmW770, mmW771, mmW772, mmW773, mmW774, mmW775, mmW776, mmW777, mmW778, mmW779, mmW780, mmW781, mmW782, mmW783, mmW784, mmW785, mmW786, mmW787, mmW788, mmW789, mmW790, mmW791, mmW792, mmW793, mmW794, mmW795, mmW796, mmW797, mmW798, mmW799, mmW7100, mmW7101, mmW7102, mmW7103, mmW7104, mmW7105, mmW7106, mmW7107, mmW7108, mmW7109, mmW7110, mmW7111, mmW7112, mmW7113]) (spTwo (spSum [(90, true), (104, false)] []) (spKnown 16))) 300 4 [.int .i64 49, .bool true] 0 .lf) = some true := by kernel_rfl
theorem mmW765_chk : chk Tryz.prog noTab (spTwo (spSum [(90, true), (104, false)] []) (spKnown 16)) 300 mmW765 = true := by kernel_rfl
theorem mmW768_chk : chk Tryz.prog noTab (spTwo (spSum [(90, true), (104, false)] []) (spKnown 16)) 300 mmW768 = true := by kernel_rfl
theorem mmW773_chk : chk Tryz.prog noTab (spTwo (spSum [(90, true), (104, false)] []) (spKnown 16)) 300 mmW773 = true := by kernel_rfl
theorem mmW781_chk : chk Tryz.prog noTab (spTwo (spSum [(90, true), (104, false)] []) (spKnown 16)) 300 mmW781 = true := by kernel_rfl
theorem mmW789_chk : chk Tryz.prog noTab (spTwo (spSum [(90, true), (104, false)] []) (spKnown 16)) 300 mmW789 = true := by kernel_rfl
theorem mmW797_chk : chk Tryz.prog noTab (spTwo (spSum [(90, true), (104, false)] []) (spKnown 16)) 300 mmW797 = true := by kernel_rfl
theorem mmW7105_chk : chk Tryz.prog noTab (spTwo (spSum [(90, true), (104, false)] []) (spKnown 16)) 300 mmW7105 = true := by kernel_rfl
theorem mmW7113_chk : chk Tryz.prog noTab (spTwo (spSum [(90, true), (104, false)] []) (spKnown 16)) 300 mmW7113 = true := by kernel_rfl
theorem waits_true_25_says : says (fxCall Tryz.prog noTab (spTwo (spM [mmW766, mmW765, mmW764, mmW767, mmW768, mmW769, mmW770, mmW771, mmW772, mmW773, mmW774, mmW775, mmW776, mmW777, mmW778, mmW779, mmW780, mmW781, mmW782, mmW783, mmW784, mmW785, mmW786, mmW787, mmW788, mmW789]) (spTwo (spSum [(90, true), (104, false)] []) (spKnown 16))) 300 4 [.int .i64 25, .bool true] 0 .lf) = some true := by kernel_rfl
theorem waits_true_19_says : says (fxCall Tryz.prog noTab (spTwo (spM [mmW766, mmW765, mmW764, mmW767, mmW768, mmW769, mmW770, mmW771, mmW772, mmW773, mmW774, mmW775, mmW776, mmW777, mmW778, mmW779, mmW780, mmW781, mmW782, mmW783]) (spTwo (spSum [(90, true), (104, false)] []) (spKnown 16))) 300 4 [.int .i64 19, .bool true] 0 .lf) = some true := by kernel_rfl
theorem mmW77_chk : chk Tryz.prog noTab (spTwo (spSum [(90, true), (104, false)] []) (spKnown 16)) 300 mmW77 = true := by kernel_rfl
theorem mmW715_chk : chk Tryz.prog noTab (spTwo (spSum [(90, true), (104, false)] []) (spKnown 16)) 300 mmW715 = true := by kernel_rfl
theorem mmW723_chk : chk Tryz.prog noTab (spTwo (spSum [(90, true), (104, false)] []) (spKnown 16)) 300 mmW723 = true := by kernel_rfl
theorem mmW731_chk : chk Tryz.prog noTab (spTwo (spSum [(90, true), (104, false)] []) (spKnown 16)) 300 mmW731 = true := by kernel_rfl
theorem mmW739_chk : chk Tryz.prog noTab (spTwo (spSum [(90, true), (104, false)] []) (spKnown 16)) 300 mmW739 = true := by kernel_rfl
theorem mmW755_chk : chk Tryz.prog noTab (spTwo (spSum [(90, true), (104, false)] []) (spKnown 16)) 300 mmW755 = true := by kernel_rfl
theorem waits_true_10_says : says (fxCall Tryz.prog noTab (spTwo (spM [mmW766, mmW765, mmW764, mmW767, mmW768, mmW769, mmW770, mmW771, mmW772, mmW773, mmW774]) (spTwo (spSum [(90, true), (104, false)] []) (spKnown 16))) 300 4 [.int .i64 10, .bool true] 0 .lf) = some true := by kernel_rfl
theorem waits_true_3_says : says (fxCall Tryz.prog noTab (spTwo (spM [mmW766, mmW765, mmW764, mmW767]) (spTwo (spSum [(90, true), (104, false)] []) (spKnown 16))) 300 4 [.int .i64 3, .bool true] 0 .lf) = some true := by kernel_rfl
end Go.Proofs.YtdfnjcbgakmibaaGreat.ev
