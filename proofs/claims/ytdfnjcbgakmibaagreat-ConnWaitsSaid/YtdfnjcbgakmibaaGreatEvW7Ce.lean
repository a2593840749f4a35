/-
  Calls worked out ahead: checked. Conditions: none.
-/
import Derived.Test.YtdfnjcbgakmibaaGreatEvW7Da
import Derived.Test.YtdfnjcbgakmibaaGreatEvW7Db
import Derived.KernelRfl
namespace Go.Proofs.YtdfnjcbgakmibaaGreat.ev
set_option maxRecDepth 1000000
set_option linter.unusedVariables false
theorem waits_false_34_says : says (fxCall Tryz.prog noTab (spTwo (spM [mmW73, mmW71, mmW70, mmW74, mmW75, mmW76, mmW77, mmW78, mmW79, mmW710, mmW711, mmW712, mmW713, mmW714, mmW715, mmW716, mmW717, mmW718, mmW719, mmW720, mmW721, mmW722, mmW723, mmW724, mmW725, mmW726, mmW727, mmW728, mmW729, mmW730, mmW731, mmW732, mmW733, mmW734, mmW735]) (spTwo (spSum [(90, true), (104, false)] []) (spKnown 16))) 300 4 [.int .i64 34, .bool false] 0 .lf) = some true := by kernel_rfl
theorem waits_false_27_says : says (fxCall Tryz.prog noTab (spTwo (spM [mmW73, mmW71, mmW70, mmW74, mmW75, mmW76, mmW77, mmW78, mmW79, mmW710, mmW711, mmW712, mmW713, mmW714, mmW715, mmW716, mmW717, mmW718, mmW719, mmW720, mmW721, mmW722, mmW723, mmW724, mmW725, mmW726, mmW727, mmW728]) (spTwo (spSum [(90, true), (104, false)] []) (spKnown 16))) 300 4 [.int .i64 27, .bool false] 0 .lf) = some true := by kernel_rfl
theorem waits_false_18_says : says (fxCall Tryz.prog noTab (spTwo (spM [mmW73, mmW71, mmW70, mmW74, mmW75, mmW76, mmW77, mmW78, mmW79, mmW710, mmW711, mmW712, mmW713, mmW714, mmW715, mmW716, mmW717, mmW718, mmW719]) (spTwo (spSum [(90, true), (104, false)] []) (spKnown 16))) 300 4 [.int .i64 18, .bool false] 0 .lf) = some true := by kernel_rfl
theorem waits_false_11_says : says (fxCall Tryz.prog noTab (spTwo (spM [mmW73, mmW71, mmW70, mmW74, mmW75, mmW76, mmW77, mmW78, mmW79, mmW710, mmW711, mmW712]) (spTwo (spSum [(90, true), (104, false)] []) (spKnown 16))) 300 4 [.int .i64 11, .bool false] 0 .lf) = some true := by kernel_rfl
theorem waits_false_2_says : says (fxCall Tryz.prog noTab (spTwo (spM [mmW73, mmW71, mmW70]) (spTwo (spSum [(90, true), (104, false)] []) (spKnown 16))) 300 4 [.int .i64 2, .bool false] 0 .lf) = some true := by kernel_rfl
theorem waits_false_46_says : says (fxCall Tryz.prog noTab (spTwo (spM [mmW73, mmW71, mmW70, mmW74, mmW75, mmW76, mmW77, mmW78, mmW79, mmW710, mmW711, mmW712, mmW713, mmW714, mmW715, mmW716, mmW717, mmW718, mmW719, mmW720, mmW721, mmW722, mmW723, mmW724, mmW725, mmW726, mmW727, mmW728, mmW729, mmW730, mmW731, mmW732, mmW733, mmW734, mmW735, mmW736, mmW737, mmW738, mmW739, mmW741, mmW743, mmW745, mmW747, mmW749, mmW751, mmW753, mmW755, mmW754]) (spTwo (spSum [(90, true), (104, false)] []) (spKnown 16))) 300 4 [.int .i64 46, .bool false] 0 .lf) = some true := by kernel_rfl
theorem mmW748_chk : chk Tryz.prog noTab (spTwo (spSum [(90, true), (104, false)] []) (spKnown 16)) 300 mmW748 = true := by kernel_rfl
theorem mmW760_chk : chk Tryz.prog noTab (spTwo (spSum [(90, true), (104, false)] []) (spKnown 16)) 300 mmW760 = true := by kernel_rfl
theorem waits_true_45_says : says (fxCall Tryz.prog noTab (spTwo (spM [mmW766, mmW765, mmW764, mmW767, mmW768, mmW769, mmW770, mmW771, mmW772, mmW773, mmW774, mmW775, mmW776, mmW777, mmW778, mmW779, mmW780, mmW781, mmW782, mmW783, mmW784, mmW785, mmW786, mmW787, mmW788, mmW789, mmW790, mmW791, mmW792, mmW793, mmW794, mmW795, mmW796, mmW797, mmW798, mmW799, mmW7100, mmW7101, mmW7102, mmW7103, mmW7104, mmW7105, mmW7106, mmW7107, mmW7108, mmW7109]) (spTwo (spSum [(90, true), (104, false)] []) (spKnown 16))) 300 4 [.int .i64 45, .bool true] 0 .lf) = some true := by kernel_rfl
theorem waits_true_41_says : says (fxCall Tryz.prog noTab (spTwo (spM [mmW766, mmW765, mmW764, mmW767, mmW768, mmW769, mmW770, mmW771, mmW772, mmW773, mmW774, mmW775, mmW776, mmW777, mmW778, mmW779, mmW780, mmW781, mmW782, mmW783, mmW784, mmW785, mmW786, mmW787, mmW788, mmW789, mmW790, mmW791, mmW792, mmW793, mmW794, mmW795, mmW796, mmW797, mmW798, mmW799, mmW7100, mmW7101, mmW7102, mmW7103, mmW7104, mmW7105]) (spTwo (spSum [(90, true), (104, false)] []) (spKnown 16))) 300 4 [.int .i64 41, .bool true] 0 .lf) = some true := by kernel_rfl
theorem mmW767_chk : chk Tryz.prog noTab (spTwo (spSum [(90, true), (104, false)] []) (spKnown 16)) 300 mmW767 = true := by kernel_rfl
theorem mmW772_chk : chk Tryz.prog noTab (spTwo (spSum [(90, true), (104, false)] []) (spKnown 16)) 300 mmW772 = true := by kernel_rfl
theorem mmW780_chk : chk Tryz.prog noTab (spTwo (spSum [(90, true), (104, false)] []) (spKnown 16)) 300 mmW780 = true := by kernel_rfl
theorem mmW788_chk : chk Tryz.prog noTab (spTwo (spSum [(90, true), (104, false)] []) (spKnown 16)) 300 mmW788 = true := by kernel_rfl
theorem mmW796_chk : chk Tryz.prog noTab (spTwo (spSum [(90, true), (104, false)] []) (spKnown 16)) 300 mmW796 = true := by kernel_rfl
theorem mmW7104_chk : chk Tryz.prog noTab (spTwo (spSum [(90, true), (104, false)] []) (spKnown 16)) 300 mmW7104 = true := by kernel_rfl
theorem mmW7112_chk : chk Tryz.prog noTab (spTwo (spSum [(90, true), (104, false)] []) (spKnown 16)) 300 mmW7112 = true := by kernel_rfl
theorem waits_true_26_says : says (fxCall Tryz.prog noTab (spTwo (spM [mmW766, mmW765, mmW764, mmW767, mmW768, mmW769, mmW770, mmW771, mmW772, mmW773, mmW774, mmW775, mmW776, mmW777, mmW778, mmW779, mmW780, mmW781, mmW782, mmW783, mmW784, mmW785, mmW786, mmW787, mmW788, mmW789, mmW790]) (spTwo (spSum [(90, true), (104, false)] []) (spKnown 16))) 300 4 [.int .i64 26, .bool true] 0 .lf) = some true := by kernel_rfl
theorem waits_true_18_says : says (fxCall Tryz.prog noTab (spTwo (spM [mmW766, mmW765, mmW764, mmW767, mmW768, mmW769, mmW770, mmW771, mmW772, mmW773, mmW774, mmW775, mmW776, mmW777, mmW778, mmW779, mmW780, mmW781, mmW782]) (spTwo (spSum [(90, true), (104, false)] []) (spKnown 16))) 300 4 [.int .i64 18, .bool true] 0 .lf) = some true := by kernel_rfl
theorem mmW76_chk : chk Tryz.prog noTab (spTwo (spSum [(90, true), (104, false)] []) (spKnown 16)) 300 mmW76 = true := by kernel_rfl
theorem mmW714_chk : chk Tryz.prog noTab (spTwo (spSum [(90, true), (104, false)] []) (spKnown 16)) 300 mmW714 = true := by kernel_rfl
theorem mmW722_chk : chk Tryz.prog noTab (spTwo (spSum [(90, true), (104, false)] []) (spKnown 16)) 300 mmW722 = true := by kernel_rfl
theorem mmW730_chk : chk Tryz.prog noTab (spTwo (spSum [(90, true), (104, false)] []) (spKnown 16)) 300 mmW730 = true := by kernel_rfl
theorem mmW738_chk : chk Tryz.prog noTab (spTwo (spSum [(90, true), (104, false)] []) (spKnown 16)) 300 mmW738 = true := by kernel_rfl
theorem mmW753_chk : chk Tryz.prog noTab (spTwo (spSum [(90, true), (104, false)] []) (spKnown 16)) 300 mmW753 = true := by kernel_rfl
theorem waits_true_11_says : says (fxCall Tryz.prog noTab (spTwo (spM [mmW766, mmW765, mmW764, mmW767, mmW768, mmW769, mmW770, mmW771, mmW772, mmW773, mmW774, mmW775]) (spTwo (spSum [(90, true), (104, false)] []) (spKnown 16))) 300 4 [.int .i64 11, .bool true] 0 .lf) = some true := by kernel_rfl
theorem waits_true_2_says : says (fxCall Tryz.prog noTab (spTwo (spM [mmW766, mmW765, mmW764]) (spTwo (spSum [(90, true), (104, false)] []) (spKnown 16))) 300 4 [.int .i64 2, .bool true] 0 .lf) = some true := by kernel_rfl
end Go.Proofs.YtdfnjcbgakmibaaGreat.ev
