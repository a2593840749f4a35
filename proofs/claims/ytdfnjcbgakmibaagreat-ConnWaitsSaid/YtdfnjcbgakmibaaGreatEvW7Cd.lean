/-
  Calls worked out ahead: checked. Conditions: none.
-/
import Derived.Test.YtdfnjcbgakmibaaGreatEvW7Da
import Derived.Test.YtdfnjcbgakmibaaGreatEvW7Db
import Derived.KernelRfl
namespace Go.Proofs.YtdfnjcbgakmibaaGreat.ev
set_option maxRecDepth 1000000
set_option linter.unusedVariables false
theorem waits_false_35_says : says (fxCall Tryz.prog noTab (spTwo (spM [mmW73, mmW71, mmW70, mmW74, mmW75, mmW76, mmW77, mmW78, mmW79, mmW710, mmW711, mmW712, mmW713, mmW714, mmW715, mmW716, mmW717, mmW718, mmW719, mmW720, mmW721, mmW722, mmW723, mmW724, mmW725, mmW726, mmW727, mmW728, mmW729, mmW730, mmW731, mmW732, mmW733, mmW734, mmW735, mmW736]) (spTwo (spSum [(90, true), (104, false)] []) (spKnown 16))) 300 4 [.int .i64 35, .bool false] 0 .lf) = some true := by kernel_rfl
theorem waits_false_26_says : says (fxCall Tryz.prog noTab (spTwo (spM [mmW73, mmW71, mmW70, mmW74, mmW75, mmW76, mmW77, mmW78, mmW79, mmW710, mmW711, mmW712, mmW713, mmW714, mmW715, mmW716, mmW717, mmW718, mmW719, mmW720, mmW721, mmW722, mmW723, mmW724, mmW725, mmW726, mmW727]) (spTwo (spSum [(90, true), (104, false)] []) (spKnown 16))) 300 4 [.int .i64 26, .bool false] 0 .lf) = some true := by kernel_rfl
theorem waits_false_19_says : says (fxCall Tryz.prog noTab (spTwo (spM [mmW73, mmW71, mmW70, mmW74, mmW75, mmW76, mmW77, mmW78, mmW79, mmW710, mmW711, mmW712, mmW713, mmW714, mmW715, mmW716, mmW717, mmW718, mmW719, mmW720]) (spTwo (spSum [(90, true), (104, false)] []) (spKnown 16))) 300 4 [.int .i64 19, .bool false] 0 .lf) = some true := by kernel_rfl
theorem waits_false_10_says : says (fxCall Tryz.prog noTab (spTwo (spM [mmW73, mmW71, mmW70, mmW74, mmW75, mmW76, mmW77, mmW78, mmW79, mmW710, mmW711]) (spTwo (spSum [(90, true), (104, false)] []) (spKnown 16))) 300 4 [.int .i64 10, .bool false] 0 .lf) = some true := by kernel_rfl
theorem waits_false_3_says : says (fxCall Tryz.prog noTab (spTwo (spM [mmW73, mmW71, mmW70, mmW74]) (spTwo (spSum [(90, true), (104, false)] []) (spKnown 16))) 300 4 [.int .i64 3, .bool false] 0 .lf) = some true := by kernel_rfl
theorem waits_false_45_says : says (fxCall Tryz.prog noTab (spTwo (spM [mmW73, mmW71, mmW70, mmW74, mmW75, mmW76, mmW77, mmW78, mmW79, mmW710, mmW711, mmW712, mmW713, mmW714, mmW715, mmW716, mmW717, mmW718, mmW719, mmW720, mmW721, mmW722, mmW723, mmW724, mmW725, mmW726, mmW727, mmW728, mmW729, mmW730, mmW731, mmW732, mmW733, mmW734, mmW735, mmW736, mmW737, mmW738, mmW739, mmW741, mmW743, mmW745, mmW747, mmW749, mmW751, mmW753, mmW752]) (spTwo (spSum [(90, true), (104, false)] []) (spKnown 16))) 300 4 [.int .i64 45, .bool false] 0 .lf) = some true := by kernel_rfl
theorem mmW746_chk : chk Tryz.prog noTab (spTwo (spSum [(90, true), (104, false)] []) (spKnown 16)) 300 mmW746 = true := by kernel_rfl
theorem mmW758_chk : chk Tryz.prog noTab (spTwo (spSum [(90, true), (104, false)] []) (spKnown 16)) 300 mmW758 = true := by kernel_rfl
theorem waits_true_46_says : says (fxCall Tryz.prog noTab (spTwo (spM [mmW766, mmW765, mmW764, mmW767, mmW768, mmW769, mmW770, mmW771, mmW772, mmW773, mmW774, mmW775, mmW776, mmW777, mmW778, mmW779, mmW780, mmW781, mmW782, mmW783, mmW784, mmW785, mmW786, mmW787, mmW788, mmW789, mmW790, mmW791, mmW792, mmW793, mmW794, mmW795, mmW796, mmW797, mmW798, mmW799, mmW7100, mmW7101, mmW7102, mmW7103, mmW7104, mmW7105, mmW7106, mmW7107, mmW7108, mmW7109, mmW7110]) (spTwo (spSum [(90, true), (104, false)] []) (spKnown 16))) 300 4 [.int .i64 46, .bool true] 0 .lf) = some true := by kernel_rfl
theorem waits_true_40_says : says (fxCall Tryz.prog noTab (spTwo (spM [mmW766, mmW765, mmW764, mmW767, mmW768, mmW769, mmW770, mmW771, mmW772, mmW773, mmW774, mmW775, mmW776, mmW777, mmW778, mmW779, mmW780, mmW781, mmW782, mmW783, mmW784, mmW785, mmW786, mmW787, mmW788, mmW789, mmW790, mmW791, mmW792, mmW793, mmW794, mmW795, mmW796, mmW797, mmW798, mmW799, mmW7100, mmW7101, mmW7102, mmW7103, mmW7104]) (spTwo (spSum [(90, true), (104, false)] []) (spKnown 16))) 300 4 [.int .i64 40, .bool true] 0 .lf) = some true := by kernel_rfl
theorem mmW764_chk : chk Tryz.prog noTab (spTwo (spSum [(90, true), (104, false)] []) (spKnown 16)) 300 mmW764 = true := by kernel_rfl
theorem mmW771_chk : chk Tryz.prog noTab (spTwo (spSum [(90, true), (104, false)] []) (spKnown 16)) 300 mmW771 = true := by kernel_rfl
theorem mmW779_chk : chk Tryz.prog noTab (spTwo (spSum [(90, true), (104, false)] []) (spKnown 16)) 300 mmW779 = true := by kernel_rfl
theorem mmW787_chk : chk Tryz.prog noTab (spTwo (spSum [(90, true), (104, false)] []) (spKnown 16)) 300 mmW787 = true := by kernel_rfl
theorem mmW795_chk : chk Tryz.prog noTab (spTwo (spSum [(90, true), (104, false)] []) (spKnown 16)) 300 mmW795 = true := by kernel_rfl
theorem mmW7103_chk : chk Tryz.prog noTab (spTwo (spSum [(90, true), (104, false)] []) (spKnown 16)) 300 mmW7103 = true := by kernel_rfl
theorem mmW7111_chk : chk Tryz.prog noTab (spTwo (spSum [(90, true), (104, false)] []) (spKnown 16)) 300 mmW7111 = true := by kernel_rfl
theorem waits_true_27_says : says (fxCall Tryz.prog noTab (spTwo (spM [mmW766, mmW765, mmW764, mmW767, mmW768, mmW769, mmW770, mmW771, mmW772, mmW773, mmW774, mmW775, mmW776, mmW777, mmW778, mmW779, mmW780, mmW781, mmW782, mmW783, mmW784, mmW785, mmW786, mmW787, mmW788, mmW789, mmW790, mmW791]) (spTwo (spSum [(90, true), (104, false)] []) (spKnown 16))) 300 4 [.int .i64 27, .bool true] 0 .lf) = some true := by kernel_rfl
theorem waits_true_17_says : says (fxCall Tryz.prog noTab (spTwo (spM [mmW766, mmW765, mmW764, mmW767, mmW768, mmW769, mmW770, mmW771, mmW772, mmW773, mmW774, mmW775, mmW776, mmW777, mmW778, mmW779, mmW780, mmW781]) (spTwo (spSum [(90, true), (104, false)] []) (spKnown 16))) 300 4 [.int .i64 17, .bool true] 0 .lf) = some true := by kernel_rfl
theorem mmW75_chk : chk Tryz.prog noTab (spTwo (spSum [(90, true), (104, false)] []) (spKnown 16)) 300 mmW75 = true := by kernel_rfl
theorem mmW713_chk : chk Tryz.prog noTab (spTwo (spSum [(90, true), (104, false)] []) (spKnown 16)) 300 mmW713 = true := by kernel_rfl
theorem mmW721_chk : chk Tryz.prog noTab (spTwo (spSum [(90, true), (104, false)] []) (spKnown 16)) 300 mmW721 = true := by kernel_rfl
theorem mmW729_chk : chk Tryz.prog noTab (spTwo (spSum [(90, true), (104, false)] []) (spKnown 16)) 300 mmW729 = true := by kernel_rfl
theorem mmW737_chk : chk Tryz.prog noTab (spTwo (spSum [(90, true), (104, false)] []) (spKnown 16)) 300 mmW737 = true := by kernel_rfl
theorem mmW751_chk : chk Tryz.prog noTab (spTwo (spSum [(90, true), (104, false)] []) (spKnown 16)) 300 mmW751 = true := by kernel_rfl
theorem waits_true_12_says : says (fxCall Tryz.prog noTab (spTwo (spM [mmW766, mmW765, mmW764, mmW767, mmW768, mmW769, mmW770, mmW771, mmW772, mmW773, mmW774, mmW775, mmW776]) (spTwo (spSum [(90, true), (104, false)] []) (spKnown 16))) 300 4 [.int .i64 12, .bool true] 0 .lf) = some true := by kernel_rfl
end Go.Proofs.YtdfnjcbgakmibaaGreat.ev
