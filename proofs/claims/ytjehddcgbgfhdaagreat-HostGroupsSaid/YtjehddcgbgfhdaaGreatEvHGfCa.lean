/-
  What is worked out ahead: checked. Conditions: none.
-/
import Derived.Test.YtjehddcgbgfhdaaGreatEvHGfDa
import Derived.KernelRfl
namespace Go.Proofs.YtjehddcgbgfhdaaGreat.ev
set_option maxRecDepth 1000000
set_option linter.unusedVariables false
set_option linter.unusedSimpArgs false
theorem grpN0_false_says : says (fxCall Tryz.prog (tabG Tryz.prog [HGfe4_0, HGfe4_1, HGfe4_2, HGfe4_3, HGfe4_4, HGfe4_5, HGfe4_33, HGfe4_34, HGfe4_35]) (spTwo (spM [HGfm4_0]) (spTwo (spSum [(124, true), (185, false)] []) (spKnown 18))) 300 5 [.chan (some 0), .bool false, .chan (some 1)] 0 .lf) = some true := by kernel_rfl
theorem grpZ1_false_says : says (fxCall Tryz.prog (tabG Tryz.prog [HGfe7_0, HGfe7_1, HGfe7_2, HGfe7_3, HGfe7_4, HGfe7_5, HGfe7_29, HGfe7_30, HGfe7_31]) (spTwo (spM [HGfm7_0]) (spTwo (spSum [(124, true), (185, false)] []) (spKnown 18))) 300 5 [.chan (some 0), .bool false, .chan (some 1)] 0 .lf) = some true := by kernel_rfl
theorem HGfm5_0_chk : chk Tryz.prog (tabG Tryz.prog [HGfe5_5, HGfe5_6, HGfe5_7, HGfe5_8, HGfe5_9, HGfe5_10, HGfe5_11, HGfe5_12, HGfe5_13, HGfe5_14, HGfe5_15, HGfe5_16, HGfe5_17, HGfe5_18, HGfe5_19, HGfe5_20, HGfe5_21, HGfe5_22, HGfe5_23, HGfe5_24, HGfe5_25, HGfe5_26, HGfe5_27, HGfe5_28]) (spTwo (spSum [(124, true), (185, false)] [HGfp5_0, HGfp5_1]) (spKnown 18)) 300 HGfm5_0 = true := by kernel_rfl
theorem HGfm11_1_chk : chk Tryz.prog (tabG Tryz.prog [HGfe11_5, HGfe11_6, HGfe11_7, HGfe11_8, HGfe11_9, HGfe11_10, HGfe11_11, HGfe11_12, HGfe11_13, HGfe11_14, HGfe11_15, HGfe11_16, HGfe11_17, HGfe11_18, HGfe11_19, HGfe11_20, HGfe11_21, HGfe11_22, HGfe11_23, HGfe11_24, HGfe11_25, HGfe11_26, HGfe11_27, HGfe11_28]) (spTwo (spSum [(124, true), (185, false)] [HGfp11_0, HGfp11_1]) (spKnown 18)) 300 HGfm11_1 = true := by kernel_rfl
theorem grpN3_false_says : says (fxCall Tryz.prog (tabG Tryz.prog [HGfe10_0, HGfe10_1, HGfe10_2, HGfe10_3, HGfe10_4, HGfe10_5]) (spTwo (spM [HGfm10_1, HGfm10_0]) (spTwo (spSum [(124, true), (185, false)] []) (spKnown 18))) 300 5 [.chan (some 0), .bool false, .chan (some 1)] 0 .lf) = some true := by kernel_rfl
theorem grpZ3_false_says : says (fxCall Tryz.prog (tabG Tryz.prog [HGfe11_0, HGfe11_1, HGfe11_2, HGfe11_3, HGfe11_4, HGfe11_5]) (spTwo (spM [HGfm11_1, HGfm11_0]) (spTwo (spSum [(124, true), (185, false)] []) (spKnown 18))) 300 5 [.chan (some 0), .bool false, .chan (some 1)] 0 .lf) = some true := by kernel_rfl
end Go.Proofs.YtjehddcgbgfhdaaGreat.ev
