/-
  Calls worked out ahead: checked. Conditions: none.
-/
import Derived.Test.YtdfnjcbgakmibaaGreatEvW7Da
import Derived.Test.YtdfnjcbgakmibaaGreatEvW7Db
import Derived.KernelRfl
namespace Go.Proofs.YtdfnjcbgakmibaaGreat.ev
set_option maxRecDepth 1000000
set_option linter.unusedVariables false
theorem waits_false_37_says : says (fxCall Tryz.prog noTab (spTwo (spM [mmW73, mmW71, mmW70, mmW74, mmW75, mmW76, mmW77, mmW78, mmW79, mmW710, mmW711, mmW712, mmW713, mmW714, mmW715, mmW716, mmW717, mmW718, mmW719, mmW720, mmW721, mmW722, mmW723, mmW724, mmW725, mmW726, mmW727, mmW728, mmW729, mmW730, mmW731, mmW732, mmW733, mmW734, mmW735, mmW736, mmW737, mmW738]) (spTwo (spSum [(90, true), (104, false)] []) (spKnown 16))) 300 4 [.int .i64 37, .bool false] 0 .lf) = some true := by kernel_rfl
theorem waits_false_24_says : says (fxCall Tryz.prog noTab (spTwo (spM [mmW73, mmW71, mmW70, mmW74, mmW75, mmW76, mmW77, mmW78, mmW79, mmW710, mmW711, mmW712, mmW713, mmW714, mmW715, mmW716, mmW717, mmW718, mmW719, mmW720, mmW721, mmW722, mmW723, mmW724, mmW725]) (spTwo (spSum [(90, true), (104, false)] []) (spKnown 16))) 300 4 [.int .i64 24, .bool false] 0 .lf) = some true := by kernel_rfl
theorem waits_false_21_says : says (fxCall Tryz.prog noTab (spTwo (spM [mmW73, mmW71, mmW70, mmW74, mmW75, mmW76, mmW77, mmW78, mmW79, mmW710, mmW711, mmW712, mmW713, mmW714, mmW715, mmW716, mmW717, mmW718, mmW719, mmW720, mmW721, mmW722]) (spTwo (spSum [(90, true), (104, false)] []) (spKnown 16))) 300 4 [.int .i64 21, .bool false] 0 .lf) = some true := by kernel_rfl
theorem waits_false_8_says : says (fxCall Tryz.prog noTab (spTwo (spM [mmW73, mmW71, mmW70, mmW74, mmW75, mmW76, mmW77, mmW78, mmW79]) (spTwo (spSum [(90, true), (104, false)] []) (spKnown 16))) 300 4 [.int .i64 8, .bool false] 0 .lf) = some true := by kernel_rfl
theorem waits_false_5_says : says (fxCall Tryz.prog noTab (spTwo (spM [mmW73, mmW71, mmW70, mmW74, mmW75, mmW76]) (spTwo (spSum [(90, true), (104, false)] []) (spKnown 16))) 300 4 [.int .i64 5, .bool false] 0 .lf) = some true := by kernel_rfl
theorem waits_false_43_says : says (fxCall Tryz.prog noTab (spTwo (spM [mmW73, mmW71, mmW70, mmW74, mmW75, mmW76, mmW77, mmW78, mmW79, mmW710, mmW711, mmW712, mmW713, mmW714, mmW715, mmW716, mmW717, mmW718, mmW719, mmW720, mmW721, mmW722, mmW723, mmW724, mmW725, mmW726, mmW727, mmW728, mmW729, mmW730, mmW731, mmW732, mmW733, mmW734, mmW735, mmW736, mmW737, mmW738, mmW739, mmW741, mmW743, mmW745, mmW747, mmW749, mmW748]) (spTwo (spSum [(90, true), (104, false)] []) (spKnown 16))) 300 4 [.int .i64 43, .bool false] 0 .lf) = some true := by kernel_rfl
theorem mmW742_chk : chk Tryz.prog noTab (spTwo (spSum [(90, true), (104, false)] []) (spKnown 16)) 300 mmW742 = true := by kernel_rfl
theorem mmW754_chk : chk Tryz.prog noTab (spTwo (spSum [(90, true), (104, false)] []) (spKnown 16)) 300 mmW754 = true := by kernel_rfl
theorem waits_true_48_says : says (fxCall Tryz.prog noTab (spTwo (spM [mmW766, mmW765, mmW764, mmW767, mmW768, mmW769, mmW770, mmW771, mmW772, mmW773, mmW774, mmW775, mmW776, mmW777, mmW778, mmW779, mmW780, mmW781, mmW782, mmW783, mmW784, mmW785, mmW786, mmW787, mmW788, mmW789, mmW790, mmW791, mmW792, mmW793, mmW794, mmW795, mmW796, mmW797, mmW798, mmW799, mmW7100, mmW7101, mmW7102, mmW7103, mmW7104, mmW7105, mmW7106, mmW7107, mmW7108, mmW7109, mmW7110, mmW7111, mmW7112]) (spTwo (spSum [(90, true), (104, false)] []) (spKnown 16))) 300 4 [.int .i64 48, .bool true] 0 .lf) = some true := by kernel_rfl
theorem mmW71_chk : chk Tryz.prog noTab (spTwo (spSum [(90, true), (104, false)] []) (spKnown 16)) 300 mmW71 = true := by kernel_rfl
theorem waits_true_36_says : says (fxCall Tryz.prog noTab (spTwo (spM [mmW766, mmW765, mmW764, mmW767, mmW768, mmW769, mmW770, mmW771, mmW772, mmW773, mmW774, mmW775, mmW776, mmW777, mmW778, mmW779, mmW780, mmW781, mmW782, mmW783, mmW784, mmW785, mmW786, mmW787, mmW788, mmW789, mmW790, mmW791, mmW792, mmW793, mmW794, mmW795, mmW796, mmW797, mmW798, mmW799, mmW7100]) (spTwo (spSum [(90, true), (104, false)] []) (spKnown 16))) 300 4 [.int .i64 36, .bool true] 0 .lf) = some true := by kernel_rfl
theorem mmW777_chk : chk Tryz.prog noTab (spTwo (spSum [(90, true), (104, false)] []) (spKnown 16)) 300 mmW777 = true := by kernel_rfl
theorem mmW785_chk : chk Tryz.prog noTab (spTwo (spSum [(90, true), (104, false)] []) (spKnown 16)) 300 mmW785 = true := by kernel_rfl
theorem mmW793_chk : chk Tryz.prog noTab (spTwo (spSum [(90, true), (104, false)] []) (spKnown 16)) 300 mmW793 = true := by kernel_rfl
theorem mmW7101_chk : chk Tryz.prog noTab (spTwo (spSum [(90, true), (104, false)] []) (spKnown 16)) 300 mmW7101 = true := by kernel_rfl
theorem mmW7109_chk : chk Tryz.prog noTab (spTwo (spSum [(90, true), (104, false)] []) (spKnown 16)) 300 mmW7109 = true := by kernel_rfl
theorem waits_true_31_says : says (fxCall Tryz.prog noTab (spTwo (spM [mmW766, mmW765, mmW764, mmW767, mmW768, mmW769, mmW770, mmW771, mmW772, mmW773, mmW774, mmW775, mmW776, mmW777, mmW778, mmW779, mmW780, mmW781, mmW782, mmW783, mmW784, mmW785, mmW786, mmW787, mmW788, mmW789, mmW790, mmW791, mmW792, mmW793, mmW794, mmW795]) (spTwo (spSum [(90, true), (104, false)] []) (spKnown 16))) 300 4 [.int .i64 31, .bool true] 0 .lf) = some true := by kernel_rfl
theorem waits_true_29_says : says (fxCall Tryz.prog noTab (spTwo (spM [mmW766, mmW765, mmW764, mmW767, mmW768, mmW769, mmW770, mmW771, mmW772, mmW773, mmW774, mmW775, mmW776, mmW777, mmW778, mmW779, mmW780, mmW781, mmW782, mmW783, mmW784, mmW785, mmW786, mmW787, mmW788, mmW789, mmW790, mmW791, mmW792, mmW793]) (spTwo (spSum [(90, true), (104, false)] []) (spKnown 16))) 300 4 [.int .i64 29, .bool true] 0 .lf) = some true := by kernel_rfl
theorem waits_true_15_says : says (fxCall Tryz.prog noTab (spTwo (spM [mmW766, mmW765, mmW764, mmW767, mmW768, mmW769, mmW770, mmW771, mmW772, mmW773, mmW774, mmW775, mmW776, mmW777, mmW778, mmW779]) (spTwo (spSum [(90, true), (104, false)] []) (spKnown 16))) 300 4 [.int .i64 15, .bool true] 0 .lf) = some true := by kernel_rfl
theorem mmW70_chk : chk Tryz.prog noTab (spTwo (spSum [(90, true), (104, false)] []) (spKnown 16)) 300 mmW70 = true := by kernel_rfl
theorem mmW711_chk : chk Tryz.prog noTab (spTwo (spSum [(90, true), (104, false)] []) (spKnown 16)) 300 mmW711 = true := by kernel_rfl
theorem mmW719_chk : chk Tryz.prog noTab (spTwo (spSum [(90, true), (104, false)] []) (spKnown 16)) 300 mmW719 = true := by kernel_rfl
theorem mmW727_chk : chk Tryz.prog noTab (spTwo (spSum [(90, true), (104, false)] []) (spKnown 16)) 300 mmW727 = true := by kernel_rfl
theorem mmW735_chk : chk Tryz.prog noTab (spTwo (spSum [(90, true), (104, false)] []) (spKnown 16)) 300 mmW735 = true := by kernel_rfl
theorem mmW747_chk : chk Tryz.prog noTab (spTwo (spSum [(90, true), (104, false)] []) (spKnown 16)) 300 mmW747 = true := by kernel_rfl
theorem mmW763_chk : chk Tryz.prog noTab (spTwo (spSum [(90, true), (104, false)] []) (spKnown 16)) 300 mmW763 = true := by kernel_rfl
end Go.Proofs.YtdfnjcbgakmibaaGreat.ev
