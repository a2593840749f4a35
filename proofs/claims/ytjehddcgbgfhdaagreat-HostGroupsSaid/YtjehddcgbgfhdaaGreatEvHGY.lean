/-
  HostGroups, for both truth values, put together. Conditions: none.
-/
import Derived.Test.YtjehddcgbgfhdaaGreatEvHGtCa
import Derived.Test.YtjehddcgbgfhdaaGreatEvHGtCb
import Derived.Test.YtjehddcgbgfhdaaGreatEvHGtCc
import Derived.Test.YtjehddcgbgfhdaaGreatEvHGtEa
import Derived.Test.YtjehddcgbgfhdaaGreatEvHGfCa
import Derived.Test.YtjehddcgbgfhdaaGreatEvHGfCb
import Derived.Test.YtjehddcgbgfhdaaGreatEvHGfCc
import Derived.Test.YtjehddcgbgfhdaaGreatEvHGfEa
import Derived.Test.YtjehddcgbgfhdaaGreatEvHGfEb
namespace Go.Proofs.YtjehddcgbgfhdaaGreat.ev
set_option maxRecDepth 1000000
set_option linter.unusedVariables false
set_option linter.unusedSimpArgs false
theorem grpL_true (w : World) (gg port : Int) (hg0 : 0 ≤ gg) (hg1 : gg ≤ 4294967295) (hp0 : -9223372036854775808 ≤ port) (hp1 : port ≤ 9223372036854775807) (hc : HGtK0 gg port) : Calls Tryz.prog 5 #[.int .u32 gg, .bool true, .int .i64 port] w (fun e w' => e = .returned (.bool true) ∧ Only [] w w') :=
  letI : Env := (env (HGtv0 gg port))
  lawT (HGtv0 gg port) (spTwo_ok (spSum_ok sumsOK (fun e h => by cases h)) (spKnown_ok knownBody known)) (tabG_ok (allECons (HGte0_0_ok gg port hg0 hg1 hp0 hp1 hc) allENil)) grpL_true_says (PW.cons (.opq 0 rfl (fun b h => by cases h)) (PW.cons (VR.of_flat 6 _ rfl) (PW.cons (.opq 1 rfl (fun b h => by cases h)) (PW.nil _)))) w
theorem grpH_true (w : World) (gg port : Int) (hg0 : 0 ≤ gg) (hg1 : gg ≤ 4294967295) (hp0 : -9223372036854775808 ≤ port) (hp1 : port ≤ 9223372036854775807) (hc : HGtK1 gg port) : Calls Tryz.prog 5 #[.int .u32 gg, .bool true, .int .i64 port] w (fun e w' => e = .returned (.bool true) ∧ Only [] w w') :=
  letI : Env := (env (HGtv1 gg port))
  lawT (HGtv1 gg port) (spTwo_ok (spSum_ok sumsOK (fun e h => by cases h)) (spKnown_ok knownBody known)) (tabG_ok (allECons (HGte1_0_ok gg port hg0 hg1 hp0 hp1 hc) (allECons (HGte1_1_ok gg port hg0 hg1 hp0 hp1 hc) allENil))) grpH_true_says (PW.cons (.opq 0 rfl (fun b h => by cases h)) (PW.cons (VR.of_flat 6 _ rfl) (PW.cons (.opq 1 rfl (fun b h => by cases h)) (PW.nil _)))) w
theorem grpA_true (w : World) (gg port : Int) (hg0 : 0 ≤ gg) (hg1 : gg ≤ 4294967295) (hp0 : -9223372036854775808 ≤ port) (hp1 : port ≤ 9223372036854775807) (hc : HGtK2 gg port) : Calls Tryz.prog 5 #[.int .u32 gg, .bool true, .int .i64 port] w (fun e w' => e = .returned (.bool true) ∧ Only [] w w') :=
  letI : Env := (env (HGtv2 gg port))
  lawT (HGtv2 gg port) (spTwo_ok (spSum_ok sumsOK (fun e h => by cases h)) (spKnown_ok knownBody known)) (tabG_ok (allECons (HGte2_0_ok gg port hg0 hg1 hp0 hp1 hc) (allECons (HGte2_1_ok gg port hg0 hg1 hp0 hp1 hc) (allECons (HGte2_2_ok gg port hg0 hg1 hp0 hp1 hc) allENil)))) grpA_true_says (PW.cons (.opq 0 rfl (fun b h => by cases h)) (PW.cons (VR.of_flat 6 _ rfl) (PW.cons (.opq 1 rfl (fun b h => by cases h)) (PW.nil _)))) w
theorem grpB_true (w : World) (gg port : Int) (hg0 : 0 ≤ gg) (hg1 : gg ≤ 4294967295) (hp0 : -9223372036854775808 ≤ port) (hp1 : port ≤ 9223372036854775807) (hc : HGtK3 gg port) : Calls Tryz.prog 5 #[.int .u32 gg, .bool true, .int .i64 port] w (fun e w' => e = .returned (.bool true) ∧ Only [] w w') :=
  letI : Env := (env (HGtv3 gg port))
  lawT (HGtv3 gg port) (spTwo_ok (spSum_ok sumsOK (fun e h => by cases h)) (spKnown_ok knownBody known)) (tabG_ok (allECons (HGte3_0_ok gg port hg0 hg1 hp0 hp1 hc) (allECons (HGte3_1_ok gg port hg0 hg1 hp0 hp1 hc) (allECons (HGte3_2_ok gg port hg0 hg1 hp0 hp1 hc) (allECons (HGte3_3_ok gg port hg0 hg1 hp0 hp1 hc) allENil))))) grpB_true_says (PW.cons (.opq 0 rfl (fun b h => by cases h)) (PW.cons (VR.of_flat 6 _ rfl) (PW.cons (.opq 1 rfl (fun b h => by cases h)) (PW.nil _)))) w
theorem HGtm4_0_ok (gg port : Int) (hg0 : 0 ≤ gg) (hg1 : gg ≤ 4294967295) (hp0 : -9223372036854775808 ≤ port) (hp1 : port ≤ 9223372036854775807) (hc : HGtK4 gg port) : @MemoOK (env (HGtv4 gg port)) Tryz.prog HGtm4_0 := letI : Env := (env (HGtv4 gg port)); memo (spTwo_ok (spSum_ok sumsOK (allPCons (HGtp4_4_ok gg port hg0 hg1 hp0 hp1 hc) (allPCons (HGtp4_5_ok gg port hg0 hg1 hp0 hp1 hc) allPNil))) (spKnown_ok knownBody known)) (tabG_ok (allECons (HGte4_8_ok gg port hg0 hg1 hp0 hp1 hc) (allECons (HGte4_9_ok gg port hg0 hg1 hp0 hp1 hc) (allECons (HGte4_10_ok gg port hg0 hg1 hp0 hp1 hc) (allECons (HGte4_11_ok gg port hg0 hg1 hp0 hp1 hc) (allECons (HGte4_12_ok gg port hg0 hg1 hp0 hp1 hc) (allECons (HGte4_26_ok gg port hg0 hg1 hp0 hp1 hc) (allECons (HGte4_42_ok gg port hg0 hg1 hp0 hp1 hc) (allECons (HGte4_43_ok gg port hg0 hg1 hp0 hp1 hc) (allECons (HGte4_44_ok gg port hg0 hg1 hp0 hp1 hc) (allECons (HGte4_45_ok gg port hg0 hg1 hp0 hp1 hc) (allECons (HGte4_46_ok gg port hg0 hg1 hp0 hp1 hc) (allECons (HGte4_47_ok gg port hg0 hg1 hp0 hp1 hc) (allECons (HGte4_48_ok gg port hg0 hg1 hp0 hp1 hc) (allECons (HGte4_49_ok gg port hg0 hg1 hp0 hp1 hc) (allECons (HGte4_50_ok gg port hg0 hg1 hp0 hp1 hc) (allECons (HGte4_51_ok gg port hg0 hg1 hp0 hp1 hc) (allECons (HGte4_52_ok gg port hg0 hg1 hp0 hp1 hc) (allECons (HGte4_53_ok gg port hg0 hg1 hp0 hp1 hc) (allECons (HGte4_54_ok gg port hg0 hg1 hp0 hp1 hc) (allECons (HGte4_55_ok gg port hg0 hg1 hp0 hp1 hc) (allECons (HGte4_56_ok gg port hg0 hg1 hp0 hp1 hc) (allECons (HGte4_57_ok gg port hg0 hg1 hp0 hp1 hc) (allECons (HGte4_58_ok gg port hg0 hg1 hp0 hp1 hc) (allECons (HGte4_59_ok gg port hg0 hg1 hp0 hp1 hc) (allECons (HGte4_60_ok gg port hg0 hg1 hp0 hp1 hc) (allECons (HGte4_61_ok gg port hg0 hg1 hp0 hp1 hc) (allECons (HGte4_62_ok gg port hg0 hg1 hp0 hp1 hc) (allECons (HGte4_63_ok gg port hg0 hg1 hp0 hp1 hc) (allECons (HGte4_64_ok gg port hg0 hg1 hp0 hp1 hc) (allECons (HGte4_65_ok gg port hg0 hg1 hp0 hp1 hc) (allECons (HGte4_66_ok gg port hg0 hg1 hp0 hp1 hc) (allECons (HGte4_67_ok gg port hg0 hg1 hp0 hp1 hc) (allECons (HGte4_68_ok gg port hg0 hg1 hp0 hp1 hc) (allECons (HGte4_69_ok gg port hg0 hg1 hp0 hp1 hc) (allECons (HGte4_70_ok gg port hg0 hg1 hp0 hp1 hc) (allECons (HGte4_71_ok gg port hg0 hg1 hp0 hp1 hc) (allECons (HGte4_72_ok gg port hg0 hg1 hp0 hp1 hc) (allECons (HGte4_73_ok gg port hg0 hg1 hp0 hp1 hc) (allECons (HGte4_74_ok gg port hg0 hg1 hp0 hp1 hc) (allECons (HGte4_75_ok gg port hg0 hg1 hp0 hp1 hc) (allECons (HGte4_76_ok gg port hg0 hg1 hp0 hp1 hc) (allECons (HGte4_77_ok gg port hg0 hg1 hp0 hp1 hc) (allECons (HGte4_78_ok gg port hg0 hg1 hp0 hp1 hc) (allECons (HGte4_79_ok gg port hg0 hg1 hp0 hp1 hc) (allECons (HGte4_80_ok gg port hg0 hg1 hp0 hp1 hc) (allECons (HGte4_81_ok gg port hg0 hg1 hp0 hp1 hc) (allECons (HGte4_82_ok gg port hg0 hg1 hp0 hp1 hc) (allECons (HGte4_83_ok gg port hg0 hg1 hp0 hp1 hc) (allECons (HGte4_84_ok gg port hg0 hg1 hp0 hp1 hc) (allECons (HGte4_85_ok gg port hg0 hg1 hp0 hp1 hc) (allECons (HGte4_86_ok gg port hg0 hg1 hp0 hp1 hc) (allECons (HGte4_87_ok gg port hg0 hg1 hp0 hp1 hc) (allECons (HGte4_88_ok gg port hg0 hg1 hp0 hp1 hc) (allECons (HGte4_89_ok gg port hg0 hg1 hp0 hp1 hc) (allECons (HGte4_90_ok gg port hg0 hg1 hp0 hp1 hc) allENil)))))))))))))))))))))))))))))))))))))))))))))))))))))))) HGtm4_0_chk
theorem HGtm4_1_ok (gg port : Int) (hg0 : 0 ≤ gg) (hg1 : gg ≤ 4294967295) (hp0 : -9223372036854775808 ≤ port) (hp1 : port ≤ 9223372036854775807) (hc : HGtK4 gg port) : @MemoOK (env (HGtv4 gg port)) Tryz.prog HGtm4_1 := letI : Env := (env (HGtv4 gg port)); memo (spTwo_ok (spSum_ok sumsOK (allPCons (HGtp4_2_ok gg port hg0 hg1 hp0 hp1 hc) (allPCons (HGtp4_3_ok gg port hg0 hg1 hp0 hp1 hc) allPNil))) (spKnown_ok knownBody known)) (tabG_ok (allECons (HGte4_5_ok gg port hg0 hg1 hp0 hp1 hc) (allECons (HGte4_6_ok gg port hg0 hg1 hp0 hp1 hc) (allECons (HGte4_7_ok gg port hg0 hg1 hp0 hp1 hc) (allECons (HGte4_8_ok gg port hg0 hg1 hp0 hp1 hc) (allECons (HGte4_9_ok gg port hg0 hg1 hp0 hp1 hc) (allECons (HGte4_10_ok gg port hg0 hg1 hp0 hp1 hc) (allECons (HGte4_11_ok gg port hg0 hg1 hp0 hp1 hc) (allECons (HGte4_12_ok gg port hg0 hg1 hp0 hp1 hc) (allECons (HGte4_22_ok gg port hg0 hg1 hp0 hp1 hc) (allECons (HGte4_23_ok gg port hg0 hg1 hp0 hp1 hc) (allECons (HGte4_24_ok gg port hg0 hg1 hp0 hp1 hc) (allECons (HGte4_25_ok gg port hg0 hg1 hp0 hp1 hc) (allECons (HGte4_26_ok gg port hg0 hg1 hp0 hp1 hc) (allECons (HGte4_27_ok gg port hg0 hg1 hp0 hp1 hc) (allECons (HGte4_28_ok gg port hg0 hg1 hp0 hp1 hc) (allECons (HGte4_29_ok gg port hg0 hg1 hp0 hp1 hc) (allECons (HGte4_30_ok gg port hg0 hg1 hp0 hp1 hc) (allECons (HGte4_31_ok gg port hg0 hg1 hp0 hp1 hc) (allECons (HGte4_32_ok gg port hg0 hg1 hp0 hp1 hc) (allECons (HGte4_33_ok gg port hg0 hg1 hp0 hp1 hc) (allECons (HGte4_34_ok gg port hg0 hg1 hp0 hp1 hc) (allECons (HGte4_35_ok gg port hg0 hg1 hp0 hp1 hc) (allECons (HGte4_36_ok gg port hg0 hg1 hp0 hp1 hc) (allECons (HGte4_37_ok gg port hg0 hg1 hp0 hp1 hc) (allECons (HGte4_38_ok gg port hg0 hg1 hp0 hp1 hc) (allECons (HGte4_39_ok gg port hg0 hg1 hp0 hp1 hc) (allECons (HGte4_40_ok gg port hg0 hg1 hp0 hp1 hc) (allECons (HGte4_41_ok gg port hg0 hg1 hp0 hp1 hc) allENil))))))))))))))))))))))))))))) HGtm4_1_chk
theorem HGtm4_2_ok (gg port : Int) (hg0 : 0 ≤ gg) (hg1 : gg ≤ 4294967295) (hp0 : -9223372036854775808 ≤ port) (hp1 : port ≤ 9223372036854775807) (hc : HGtK4 gg port) : @MemoOK (env (HGtv4 gg port)) Tryz.prog HGtm4_2 := letI : Env := (env (HGtv4 gg port)); memo (spTwo_ok (spSum_ok sumsOK (allPCons (HGtp4_0_ok gg port hg0 hg1 hp0 hp1 hc) (allPCons (HGtp4_1_ok gg port hg0 hg1 hp0 hp1 hc) allPNil))) (spKnown_ok knownBody known)) (tabG_ok (allECons (HGte4_2_ok gg port hg0 hg1 hp0 hp1 hc) (allECons (HGte4_3_ok gg port hg0 hg1 hp0 hp1 hc) (allECons (HGte4_6_ok gg port hg0 hg1 hp0 hp1 hc) (allECons (HGte4_7_ok gg port hg0 hg1 hp0 hp1 hc) (allECons (HGte4_8_ok gg port hg0 hg1 hp0 hp1 hc) (allECons (HGte4_9_ok gg port hg0 hg1 hp0 hp1 hc) (allECons (HGte4_10_ok gg port hg0 hg1 hp0 hp1 hc) (allECons (HGte4_11_ok gg port hg0 hg1 hp0 hp1 hc) (allECons (HGte4_12_ok gg port hg0 hg1 hp0 hp1 hc) (allECons (HGte4_13_ok gg port hg0 hg1 hp0 hp1 hc) (allECons (HGte4_14_ok gg port hg0 hg1 hp0 hp1 hc) (allECons (HGte4_15_ok gg port hg0 hg1 hp0 hp1 hc) (allECons (HGte4_16_ok gg port hg0 hg1 hp0 hp1 hc) (allECons (HGte4_17_ok gg port hg0 hg1 hp0 hp1 hc) (allECons (HGte4_18_ok gg port hg0 hg1 hp0 hp1 hc) (allECons (HGte4_19_ok gg port hg0 hg1 hp0 hp1 hc) (allECons (HGte4_20_ok gg port hg0 hg1 hp0 hp1 hc) (allECons (HGte4_21_ok gg port hg0 hg1 hp0 hp1 hc) (allECons (HGte4_22_ok gg port hg0 hg1 hp0 hp1 hc) (allECons (HGte4_23_ok gg port hg0 hg1 hp0 hp1 hc) (allECons (HGte4_24_ok gg port hg0 hg1 hp0 hp1 hc) (allECons (HGte4_25_ok gg port hg0 hg1 hp0 hp1 hc) (allECons (HGte4_26_ok gg port hg0 hg1 hp0 hp1 hc) allENil)))))))))))))))))))))))) HGtm4_2_chk
theorem grpN0_true (w : World) (gg port : Int) (hg0 : 0 ≤ gg) (hg1 : gg ≤ 4294967295) (hp0 : -9223372036854775808 ≤ port) (hp1 : port ≤ 9223372036854775807) (hc : HGtK4 gg port) : Calls Tryz.prog 5 #[.int .u32 gg, .bool true, .int .i64 port] w (fun e w' => e = .returned (.bool true) ∧ Only [] w w') :=
  letI : Env := (env (HGtv4 gg port))
  lawT (HGtv4 gg port) (spTwo_ok (spM_ok (allCons (HGtm4_2_ok gg port hg0 hg1 hp0 hp1 hc) (allCons (HGtm4_1_ok gg port hg0 hg1 hp0 hp1 hc) (allCons (HGtm4_0_ok gg port hg0 hg1 hp0 hp1 hc) allNil)))) (spTwo_ok (spSum_ok sumsOK (fun e h => by cases h)) (spKnown_ok knownBody known))) (tabG_ok (allECons (HGte4_0_ok gg port hg0 hg1 hp0 hp1 hc) (allECons (HGte4_1_ok gg port hg0 hg1 hp0 hp1 hc) (allECons (HGte4_2_ok gg port hg0 hg1 hp0 hp1 hc) (allECons (HGte4_3_ok gg port hg0 hg1 hp0 hp1 hc) (allECons (HGte4_4_ok gg port hg0 hg1 hp0 hp1 hc) (allECons (HGte4_5_ok gg port hg0 hg1 hp0 hp1 hc) allENil))))))) grpN0_true_says (PW.cons (.opq 0 rfl (fun b h => by cases h)) (PW.cons (VR.of_flat 6 _ rfl) (PW.cons (.opq 1 rfl (fun b h => by cases h)) (PW.nil _)))) w
theorem HGtm5_0_ok (gg port : Int) (hg0 : 0 ≤ gg) (hg1 : gg ≤ 4294967295) (hp0 : -9223372036854775808 ≤ port) (hp1 : port ≤ 9223372036854775807) (hc : HGtK5 gg port) : @MemoOK (env (HGtv5 gg port)) Tryz.prog HGtm5_0 := letI : Env := (env (HGtv5 gg port)); memo (spTwo_ok (spSum_ok sumsOK (allPCons (HGtp5_4_ok gg port hg0 hg1 hp0 hp1 hc) (allPCons (HGtp5_5_ok gg port hg0 hg1 hp0 hp1 hc) allPNil))) (spKnown_ok knownBody known)) (tabG_ok (allECons (HGte5_8_ok gg port hg0 hg1 hp0 hp1 hc) (allECons (HGte5_9_ok gg port hg0 hg1 hp0 hp1 hc) (allECons (HGte5_10_ok gg port hg0 hg1 hp0 hp1 hc) (allECons (HGte5_11_ok gg port hg0 hg1 hp0 hp1 hc) (allECons (HGte5_12_ok gg port hg0 hg1 hp0 hp1 hc) (allECons (HGte5_26_ok gg port hg0 hg1 hp0 hp1 hc) (allECons (HGte5_38_ok gg port hg0 hg1 hp0 hp1 hc) (allECons (HGte5_39_ok gg port hg0 hg1 hp0 hp1 hc) (allECons (HGte5_40_ok gg port hg0 hg1 hp0 hp1 hc) (allECons (HGte5_41_ok gg port hg0 hg1 hp0 hp1 hc) (allECons (HGte5_42_ok gg port hg0 hg1 hp0 hp1 hc) (allECons (HGte5_43_ok gg port hg0 hg1 hp0 hp1 hc) (allECons (HGte5_44_ok gg port hg0 hg1 hp0 hp1 hc) (allECons (HGte5_45_ok gg port hg0 hg1 hp0 hp1 hc) (allECons (HGte5_46_ok gg port hg0 hg1 hp0 hp1 hc) (allECons (HGte5_47_ok gg port hg0 hg1 hp0 hp1 hc) (allECons (HGte5_48_ok gg port hg0 hg1 hp0 hp1 hc) (allECons (HGte5_49_ok gg port hg0 hg1 hp0 hp1 hc) (allECons (HGte5_50_ok gg port hg0 hg1 hp0 hp1 hc) (allECons (HGte5_51_ok gg port hg0 hg1 hp0 hp1 hc) (allECons (HGte5_52_ok gg port hg0 hg1 hp0 hp1 hc) (allECons (HGte5_53_ok gg port hg0 hg1 hp0 hp1 hc) (allECons (HGte5_54_ok gg port hg0 hg1 hp0 hp1 hc) (allECons (HGte5_55_ok gg port hg0 hg1 hp0 hp1 hc) (allECons (HGte5_56_ok gg port hg0 hg1 hp0 hp1 hc) (allECons (HGte5_57_ok gg port hg0 hg1 hp0 hp1 hc) (allECons (HGte5_58_ok gg port hg0 hg1 hp0 hp1 hc) (allECons (HGte5_59_ok gg port hg0 hg1 hp0 hp1 hc) (allECons (HGte5_60_ok gg port hg0 hg1 hp0 hp1 hc) (allECons (HGte5_61_ok gg port hg0 hg1 hp0 hp1 hc) (allECons (HGte5_62_ok gg port hg0 hg1 hp0 hp1 hc) (allECons (HGte5_63_ok gg port hg0 hg1 hp0 hp1 hc) (allECons (HGte5_64_ok gg port hg0 hg1 hp0 hp1 hc) (allECons (HGte5_65_ok gg port hg0 hg1 hp0 hp1 hc) (allECons (HGte5_66_ok gg port hg0 hg1 hp0 hp1 hc) (allECons (HGte5_67_ok gg port hg0 hg1 hp0 hp1 hc) (allECons (HGte5_68_ok gg port hg0 hg1 hp0 hp1 hc) (allECons (HGte5_69_ok gg port hg0 hg1 hp0 hp1 hc) (allECons (HGte5_70_ok gg port hg0 hg1 hp0 hp1 hc) (allECons (HGte5_71_ok gg port hg0 hg1 hp0 hp1 hc) (allECons (HGte5_72_ok gg port hg0 hg1 hp0 hp1 hc) (allECons (HGte5_73_ok gg port hg0 hg1 hp0 hp1 hc) (allECons (HGte5_74_ok gg port hg0 hg1 hp0 hp1 hc) (allECons (HGte5_75_ok gg port hg0 hg1 hp0 hp1 hc) (allECons (HGte5_76_ok gg port hg0 hg1 hp0 hp1 hc) (allECons (HGte5_77_ok gg port hg0 hg1 hp0 hp1 hc) (allECons (HGte5_78_ok gg port hg0 hg1 hp0 hp1 hc) (allECons (HGte5_79_ok gg port hg0 hg1 hp0 hp1 hc) allENil))))))))))))))))))))))))))))))))))))))))))))))))) HGtm5_0_chk
theorem HGtm5_1_ok (gg port : Int) (hg0 : 0 ≤ gg) (hg1 : gg ≤ 4294967295) (hp0 : -9223372036854775808 ≤ port) (hp1 : port ≤ 9223372036854775807) (hc : HGtK5 gg port) : @MemoOK (env (HGtv5 gg port)) Tryz.prog HGtm5_1 := letI : Env := (env (HGtv5 gg port)); memo (spTwo_ok (spSum_ok sumsOK (allPCons (HGtp5_2_ok gg port hg0 hg1 hp0 hp1 hc) (allPCons (HGtp5_3_ok gg port hg0 hg1 hp0 hp1 hc) allPNil))) (spKnown_ok knownBody known)) (tabG_ok (allECons (HGte5_5_ok gg port hg0 hg1 hp0 hp1 hc) (allECons (HGte5_6_ok gg port hg0 hg1 hp0 hp1 hc) (allECons (HGte5_7_ok gg port hg0 hg1 hp0 hp1 hc) (allECons (HGte5_8_ok gg port hg0 hg1 hp0 hp1 hc) (allECons (HGte5_9_ok gg port hg0 hg1 hp0 hp1 hc) (allECons (HGte5_10_ok gg port hg0 hg1 hp0 hp1 hc) (allECons (HGte5_11_ok gg port hg0 hg1 hp0 hp1 hc) (allECons (HGte5_12_ok gg port hg0 hg1 hp0 hp1 hc) (allECons (HGte5_22_ok gg port hg0 hg1 hp0 hp1 hc) (allECons (HGte5_23_ok gg port hg0 hg1 hp0 hp1 hc) (allECons (HGte5_24_ok gg port hg0 hg1 hp0 hp1 hc) (allECons (HGte5_25_ok gg port hg0 hg1 hp0 hp1 hc) (allECons (HGte5_26_ok gg port hg0 hg1 hp0 hp1 hc) (allECons (HGte5_27_ok gg port hg0 hg1 hp0 hp1 hc) (allECons (HGte5_28_ok gg port hg0 hg1 hp0 hp1 hc) (allECons (HGte5_29_ok gg port hg0 hg1 hp0 hp1 hc) (allECons (HGte5_30_ok gg port hg0 hg1 hp0 hp1 hc) (allECons (HGte5_31_ok gg port hg0 hg1 hp0 hp1 hc) (allECons (HGte5_32_ok gg port hg0 hg1 hp0 hp1 hc) (allECons (HGte5_33_ok gg port hg0 hg1 hp0 hp1 hc) (allECons (HGte5_34_ok gg port hg0 hg1 hp0 hp1 hc) (allECons (HGte5_35_ok gg port hg0 hg1 hp0 hp1 hc) (allECons (HGte5_36_ok gg port hg0 hg1 hp0 hp1 hc) (allECons (HGte5_37_ok gg port hg0 hg1 hp0 hp1 hc) allENil))))))))))))))))))))))))) HGtm5_1_chk
theorem HGtm5_2_ok (gg port : Int) (hg0 : 0 ≤ gg) (hg1 : gg ≤ 4294967295) (hp0 : -9223372036854775808 ≤ port) (hp1 : port ≤ 9223372036854775807) (hc : HGtK5 gg port) : @MemoOK (env (HGtv5 gg port)) Tryz.prog HGtm5_2 := letI : Env := (env (HGtv5 gg port)); memo (spTwo_ok (spSum_ok sumsOK (allPCons (HGtp5_0_ok gg port hg0 hg1 hp0 hp1 hc) (allPCons (HGtp5_1_ok gg port hg0 hg1 hp0 hp1 hc) allPNil))) (spKnown_ok knownBody known)) (tabG_ok (allECons (HGte5_2_ok gg port hg0 hg1 hp0 hp1 hc) (allECons (HGte5_3_ok gg port hg0 hg1 hp0 hp1 hc) (allECons (HGte5_6_ok gg port hg0 hg1 hp0 hp1 hc) (allECons (HGte5_7_ok gg port hg0 hg1 hp0 hp1 hc) (allECons (HGte5_8_ok gg port hg0 hg1 hp0 hp1 hc) (allECons (HGte5_9_ok gg port hg0 hg1 hp0 hp1 hc) (allECons (HGte5_10_ok gg port hg0 hg1 hp0 hp1 hc) (allECons (HGte5_11_ok gg port hg0 hg1 hp0 hp1 hc) (allECons (HGte5_12_ok gg port hg0 hg1 hp0 hp1 hc) (allECons (HGte5_13_ok gg port hg0 hg1 hp0 hp1 hc) (allECons (HGte5_14_ok gg port hg0 hg1 hp0 hp1 hc) (allECons (HGte5_15_ok gg port hg0 hg1 hp0 hp1 hc) (allECons (HGte5_16_ok gg port hg0 hg1 hp0 hp1 hc) (allECons (HGte5_17_ok gg port hg0 hg1 hp0 hp1 hc) (allECons (HGte5_18_ok gg port hg0 hg1 hp0 hp1 hc) (allECons (HGte5_19_ok gg port hg0 hg1 hp0 hp1 hc) (allECons (HGte5_20_ok gg port hg0 hg1 hp0 hp1 hc) (allECons (HGte5_21_ok gg port hg0 hg1 hp0 hp1 hc) (allECons (HGte5_22_ok gg port hg0 hg1 hp0 hp1 hc) (allECons (HGte5_23_ok gg port hg0 hg1 hp0 hp1 hc) (allECons (HGte5_24_ok gg port hg0 hg1 hp0 hp1 hc) (allECons (HGte5_25_ok gg port hg0 hg1 hp0 hp1 hc) (allECons (HGte5_26_ok gg port hg0 hg1 hp0 hp1 hc) allENil)))))))))))))))))))))))) HGtm5_2_chk
theorem grpZ0_true (w : World) (gg port : Int) (hg0 : 0 ≤ gg) (hg1 : gg ≤ 4294967295) (hp0 : -9223372036854775808 ≤ port) (hp1 : port ≤ 9223372036854775807) (hc : HGtK5 gg port) : Calls Tryz.prog 5 #[.int .u32 gg, .bool true, .int .i64 port] w (fun e w' => e = .returned (.bool true) ∧ Only [] w w') :=
  letI : Env := (env (HGtv5 gg port))
  lawT (HGtv5 gg port) (spTwo_ok (spM_ok (allCons (HGtm5_2_ok gg port hg0 hg1 hp0 hp1 hc) (allCons (HGtm5_1_ok gg port hg0 hg1 hp0 hp1 hc) (allCons (HGtm5_0_ok gg port hg0 hg1 hp0 hp1 hc) allNil)))) (spTwo_ok (spSum_ok sumsOK (fun e h => by cases h)) (spKnown_ok knownBody known))) (tabG_ok (allECons (HGte5_0_ok gg port hg0 hg1 hp0 hp1 hc) (allECons (HGte5_1_ok gg port hg0 hg1 hp0 hp1 hc) (allECons (HGte5_2_ok gg port hg0 hg1 hp0 hp1 hc) (allECons (HGte5_3_ok gg port hg0 hg1 hp0 hp1 hc) (allECons (HGte5_4_ok gg port hg0 hg1 hp0 hp1 hc) (allECons (HGte5_5_ok gg port hg0 hg1 hp0 hp1 hc) allENil))))))) grpZ0_true_says (PW.cons (.opq 0 rfl (fun b h => by cases h)) (PW.cons (VR.of_flat 6 _ rfl) (PW.cons (.opq 1 rfl (fun b h => by cases h)) (PW.nil _)))) w
theorem hostGroups_true (w : World) (gg port : Int) (hg0 : 0 ≤ gg) (hg1 : gg ≤ 4294967295) (hp0 : -9223372036854775808 ≤ port) (hp1 : port ≤ 9223372036854775807) : Calls Tryz.prog 5 #[.int .u32 gg, .bool true, .int .i64 port] w (fun e w' => e = .returned (.bool true) ∧ Only [] w w') := by
  by_cases h1 : port < 1
  ·
    exact grpL_true w gg port hg0 hg1 hp0 hp1 ⟨h1, trivial⟩
  ·
    by_cases h2 : port > 65535
    ·
      exact grpH_true w gg port hg0 hg1 hp0 hp1 ⟨h1, h2, trivial⟩
    ·
      by_cases h3 : gg ≤ 3758096385
      ·
        exact grpA_true w gg port hg0 hg1 hp0 hp1 ⟨h1, h2, h3, trivial⟩
      ·
        by_cases h4 : gg ≥ 4026531840
        ·
          exact grpB_true w gg port hg0 hg1 hp0 hp1 ⟨h1, h2, h3, h4, trivial⟩
        ·
          by_cases h5 : port ≥ 1
          ·
            by_cases h6 : port ≤ 65535
            ·
              by_cases h7 : gg = 167772162
              ·
                exfalso; omega
              ·
                by_cases h8 : gg = 4294967295
                ·
                  exfalso; omega
                ·
                  by_cases h9 : gg = 167772415
                  ·
                    exfalso; omega
                  ·
                    by_cases h10 : gg ≥ 3758096384
                    ·
                      by_cases h11 : gg < 4026531840
                      ·
                        by_cases h12 : port ≥ 0
                        ·
                          by_cases h13 : (sumVal true [10, 0, 0, 1, (gg / 16777216), ((gg / 65536) % 256), ((gg / 256) % 256), (gg % 256), 0, 17, 0, 9, 0, 5, (((port % 18446744073709551616) / 256) % 256), ((port % 18446744073709551616) % 256), 0, 9, 0, 0, 120]) = 0
                          ·
                            by_cases h14 : gg = 167772161
                            ·
                              exfalso; omega
                            ·
                              by_cases h15 : (((((((gg / 16777216) * 256) + ((gg / 65536) % 256)) * 256) + ((gg / 256) % 256)) * 256) + (gg % 256)) = 167772162
                              ·
                                exfalso; omega
                              ·
                                by_cases h16 : (((((((gg / 16777216) * 256) + ((gg / 65536) % 256)) * 256) + ((gg / 256) % 256)) * 256) + (gg % 256)) = 4294967295
                                ·
                                  exfalso; omega
                                ·
                                  by_cases h17 : (((((((gg / 16777216) * 256) + ((gg / 65536) % 256)) * 256) + ((gg / 256) % 256)) * 256) + (gg % 256)) = 167772415
                                  ·
                                    exfalso; omega
                                  ·
                                    by_cases h18 : (((((((gg / 16777216) * 256) + ((gg / 65536) % 256)) * 256) + ((gg / 256) % 256)) * 256) + (gg % 256)) = 3758096385
                                    ·
                                      exfalso; omega
                                    ·
                                      by_cases h19 : (((((((gg / 16777216) * 256) + ((gg / 65536) % 256)) * 256) + ((gg / 256) % 256)) * 256) + (gg % 256)) = gg
                                      ·
                                        by_cases h20 : port = (((((port % 18446744073709551616) / 256) % 256) * 256) + ((port % 18446744073709551616) % 256))
                                        ·
                                          by_cases h21 : 0 = (((((((gg / 16777216) * 256) + ((gg / 65536) % 256)) * 256) + ((gg / 256) % 256)) * 256) + (gg % 256))
                                          ·
                                            exfalso; omega
                                          ·
                                            exact grpZ0_true w gg port hg0 hg1 hp0 hp1 ⟨h1, h2, h3, h4, h5, h6, h7, h8, h9, h10, h11, h12, h13, h14, h15, h16, h17, h18, h19, h20, h21, trivial⟩
                                        ·
                                          exfalso; omega
                                      ·
                                        exfalso; omega
                          ·
                            by_cases h14 : gg = 167772161
                            ·
                              exfalso; omega
                            ·
                              by_cases h15 : (((((((gg / 16777216) * 256) + ((gg / 65536) % 256)) * 256) + ((gg / 256) % 256)) * 256) + (gg % 256)) = 167772162
                              ·
                                exfalso; omega
                              ·
                                by_cases h16 : (((((((gg / 16777216) * 256) + ((gg / 65536) % 256)) * 256) + ((gg / 256) % 256)) * 256) + (gg % 256)) = 4294967295
                                ·
                                  exfalso; omega
                                ·
                                  by_cases h17 : (((((((gg / 16777216) * 256) + ((gg / 65536) % 256)) * 256) + ((gg / 256) % 256)) * 256) + (gg % 256)) = 167772415
                                  ·
                                    exfalso; omega
                                  ·
                                    by_cases h18 : (((((((gg / 16777216) * 256) + ((gg / 65536) % 256)) * 256) + ((gg / 256) % 256)) * 256) + (gg % 256)) = 3758096385
                                    ·
                                      exfalso; omega
                                    ·
                                      by_cases h19 : (((((((gg / 16777216) * 256) + ((gg / 65536) % 256)) * 256) + ((gg / 256) % 256)) * 256) + (gg % 256)) = gg
                                      ·
                                        by_cases h20 : port = (((((port % 18446744073709551616) / 256) % 256) * 256) + ((port % 18446744073709551616) % 256))
                                        ·
                                          by_cases h21 : 0 = (((((((gg / 16777216) * 256) + ((gg / 65536) % 256)) * 256) + ((gg / 256) % 256)) * 256) + (gg % 256))
                                          ·
                                            exfalso; omega
                                          ·
                                            exact grpN0_true w gg port hg0 hg1 hp0 hp1 ⟨h1, h2, h3, h4, h5, h6, h7, h8, h9, h10, h11, h12, h13, h14, h15, h16, h17, h18, h19, h20, h21, trivial⟩
                                        ·
                                          exfalso; omega
                                      ·
                                        exfalso; omega
                        ·
                          exfalso; omega
                      ·
                        exfalso; omega
                    ·
                      exfalso; omega
            ·
              exfalso; omega
          ·
            exfalso; omega

theorem grpL_false (w : World) (gg port : Int) (hg0 : 0 ≤ gg) (hg1 : gg ≤ 4294967295) (hp0 : -9223372036854775808 ≤ port) (hp1 : port ≤ 9223372036854775807) (hc : HGfK0 gg port) : Calls Tryz.prog 5 #[.int .u32 gg, .bool false, .int .i64 port] w (fun e w' => e = .returned (.bool true) ∧ Only [] w w') :=
  letI : Env := (env (HGfv0 gg port))
  lawT (HGfv0 gg port) (spTwo_ok (spSum_ok sumsOK (fun e h => by cases h)) (spKnown_ok knownBody known)) (tabG_ok (allECons (HGfe0_0_ok gg port hg0 hg1 hp0 hp1 hc) allENil)) grpL_false_says (PW.cons (.opq 0 rfl (fun b h => by cases h)) (PW.cons (VR.of_flat 6 _ rfl) (PW.cons (.opq 1 rfl (fun b h => by cases h)) (PW.nil _)))) w
theorem grpH_false (w : World) (gg port : Int) (hg0 : 0 ≤ gg) (hg1 : gg ≤ 4294967295) (hp0 : -9223372036854775808 ≤ port) (hp1 : port ≤ 9223372036854775807) (hc : HGfK1 gg port) : Calls Tryz.prog 5 #[.int .u32 gg, .bool false, .int .i64 port] w (fun e w' => e = .returned (.bool true) ∧ Only [] w w') :=
  letI : Env := (env (HGfv1 gg port))
  lawT (HGfv1 gg port) (spTwo_ok (spSum_ok sumsOK (fun e h => by cases h)) (spKnown_ok knownBody known)) (tabG_ok (allECons (HGfe1_0_ok gg port hg0 hg1 hp0 hp1 hc) (allECons (HGfe1_1_ok gg port hg0 hg1 hp0 hp1 hc) allENil))) grpH_false_says (PW.cons (.opq 0 rfl (fun b h => by cases h)) (PW.cons (VR.of_flat 6 _ rfl) (PW.cons (.opq 1 rfl (fun b h => by cases h)) (PW.nil _)))) w
theorem grpA_false (w : World) (gg port : Int) (hg0 : 0 ≤ gg) (hg1 : gg ≤ 4294967295) (hp0 : -9223372036854775808 ≤ port) (hp1 : port ≤ 9223372036854775807) (hc : HGfK2 gg port) : Calls Tryz.prog 5 #[.int .u32 gg, .bool false, .int .i64 port] w (fun e w' => e = .returned (.bool true) ∧ Only [] w w') :=
  letI : Env := (env (HGfv2 gg port))
  lawT (HGfv2 gg port) (spTwo_ok (spSum_ok sumsOK (fun e h => by cases h)) (spKnown_ok knownBody known)) (tabG_ok (allECons (HGfe2_0_ok gg port hg0 hg1 hp0 hp1 hc) (allECons (HGfe2_1_ok gg port hg0 hg1 hp0 hp1 hc) (allECons (HGfe2_2_ok gg port hg0 hg1 hp0 hp1 hc) allENil)))) grpA_false_says (PW.cons (.opq 0 rfl (fun b h => by cases h)) (PW.cons (VR.of_flat 6 _ rfl) (PW.cons (.opq 1 rfl (fun b h => by cases h)) (PW.nil _)))) w
theorem grpB_false (w : World) (gg port : Int) (hg0 : 0 ≤ gg) (hg1 : gg ≤ 4294967295) (hp0 : -9223372036854775808 ≤ port) (hp1 : port ≤ 9223372036854775807) (hc : HGfK3 gg port) : Calls Tryz.prog 5 #[.int .u32 gg, .bool false, .int .i64 port] w (fun e w' => e = .returned (.bool true) ∧ Only [] w w') :=
  letI : Env := (env (HGfv3 gg port))
  lawT (HGfv3 gg port) (spTwo_ok (spSum_ok sumsOK (fun e h => by cases h)) (spKnown_ok knownBody known)) (tabG_ok (allECons (HGfe3_0_ok gg port hg0 hg1 hp0 hp1 hc) (allECons (HGfe3_1_ok gg port hg0 hg1 hp0 hp1 hc) (allECons (HGfe3_2_ok gg port hg0 hg1 hp0 hp1 hc) (allECons (HGfe3_3_ok gg port hg0 hg1 hp0 hp1 hc) allENil))))) grpB_false_says (PW.cons (.opq 0 rfl (fun b h => by cases h)) (PW.cons (VR.of_flat 6 _ rfl) (PW.cons (.opq 1 rfl (fun b h => by cases h)) (PW.nil _)))) w
theorem HGfm4_0_ok (gg port : Int) (hg0 : 0 ≤ gg) (hg1 : gg ≤ 4294967295) (hp0 : -9223372036854775808 ≤ port) (hp1 : port ≤ 9223372036854775807) (hc : HGfK4 gg port) : @MemoOK (env (HGfv4 gg port)) Tryz.prog HGfm4_0 := letI : Env := (env (HGfv4 gg port)); memo (spTwo_ok (spSum_ok sumsOK (allPCons (HGfp4_0_ok gg port hg0 hg1 hp0 hp1 hc) (allPCons (HGfp4_1_ok gg port hg0 hg1 hp0 hp1 hc) allPNil))) (spKnown_ok knownBody known)) (tabG_ok (allECons (HGfe4_5_ok gg port hg0 hg1 hp0 hp1 hc) (allECons (HGfe4_6_ok gg port hg0 hg1 hp0 hp1 hc) (allECons (HGfe4_7_ok gg port hg0 hg1 hp0 hp1 hc) (allECons (HGfe4_8_ok gg port hg0 hg1 hp0 hp1 hc) (allECons (HGfe4_9_ok gg port hg0 hg1 hp0 hp1 hc) (allECons (HGfe4_10_ok gg port hg0 hg1 hp0 hp1 hc) (allECons (HGfe4_11_ok gg port hg0 hg1 hp0 hp1 hc) (allECons (HGfe4_12_ok gg port hg0 hg1 hp0 hp1 hc) (allECons (HGfe4_13_ok gg port hg0 hg1 hp0 hp1 hc) (allECons (HGfe4_14_ok gg port hg0 hg1 hp0 hp1 hc) (allECons (HGfe4_15_ok gg port hg0 hg1 hp0 hp1 hc) (allECons (HGfe4_16_ok gg port hg0 hg1 hp0 hp1 hc) (allECons (HGfe4_17_ok gg port hg0 hg1 hp0 hp1 hc) (allECons (HGfe4_18_ok gg port hg0 hg1 hp0 hp1 hc) (allECons (HGfe4_19_ok gg port hg0 hg1 hp0 hp1 hc) (allECons (HGfe4_20_ok gg port hg0 hg1 hp0 hp1 hc) (allECons (HGfe4_21_ok gg port hg0 hg1 hp0 hp1 hc) (allECons (HGfe4_22_ok gg port hg0 hg1 hp0 hp1 hc) (allECons (HGfe4_23_ok gg port hg0 hg1 hp0 hp1 hc) (allECons (HGfe4_24_ok gg port hg0 hg1 hp0 hp1 hc) (allECons (HGfe4_25_ok gg port hg0 hg1 hp0 hp1 hc) (allECons (HGfe4_26_ok gg port hg0 hg1 hp0 hp1 hc) (allECons (HGfe4_27_ok gg port hg0 hg1 hp0 hp1 hc) (allECons (HGfe4_28_ok gg port hg0 hg1 hp0 hp1 hc) (allECons (HGfe4_29_ok gg port hg0 hg1 hp0 hp1 hc) (allECons (HGfe4_30_ok gg port hg0 hg1 hp0 hp1 hc) (allECons (HGfe4_31_ok gg port hg0 hg1 hp0 hp1 hc) (allECons (HGfe4_32_ok gg port hg0 hg1 hp0 hp1 hc) allENil))))))))))))))))))))))))))))) HGfm4_0_chk
theorem grpN0_false (w : World) (gg port : Int) (hg0 : 0 ≤ gg) (hg1 : gg ≤ 4294967295) (hp0 : -9223372036854775808 ≤ port) (hp1 : port ≤ 9223372036854775807) (hc : HGfK4 gg port) : Calls Tryz.prog 5 #[.int .u32 gg, .bool false, .int .i64 port] w (fun e w' => e = .returned (.bool true) ∧ Only [] w w') :=
  letI : Env := (env (HGfv4 gg port))
  lawT (HGfv4 gg port) (spTwo_ok (spM_ok (allCons (HGfm4_0_ok gg port hg0 hg1 hp0 hp1 hc) allNil)) (spTwo_ok (spSum_ok sumsOK (fun e h => by cases h)) (spKnown_ok knownBody known))) (tabG_ok (allECons (HGfe4_0_ok gg port hg0 hg1 hp0 hp1 hc) (allECons (HGfe4_1_ok gg port hg0 hg1 hp0 hp1 hc) (allECons (HGfe4_2_ok gg port hg0 hg1 hp0 hp1 hc) (allECons (HGfe4_3_ok gg port hg0 hg1 hp0 hp1 hc) (allECons (HGfe4_4_ok gg port hg0 hg1 hp0 hp1 hc) (allECons (HGfe4_5_ok gg port hg0 hg1 hp0 hp1 hc) (allECons (HGfe4_33_ok gg port hg0 hg1 hp0 hp1 hc) (allECons (HGfe4_34_ok gg port hg0 hg1 hp0 hp1 hc) (allECons (HGfe4_35_ok gg port hg0 hg1 hp0 hp1 hc) allENil)))))))))) grpN0_false_says (PW.cons (.opq 0 rfl (fun b h => by cases h)) (PW.cons (VR.of_flat 6 _ rfl) (PW.cons (.opq 1 rfl (fun b h => by cases h)) (PW.nil _)))) w
theorem HGfm5_0_ok (gg port : Int) (hg0 : 0 ≤ gg) (hg1 : gg ≤ 4294967295) (hp0 : -9223372036854775808 ≤ port) (hp1 : port ≤ 9223372036854775807) (hc : HGfK5 gg port) : @MemoOK (env (HGfv5 gg port)) Tryz.prog HGfm5_0 := letI : Env := (env (HGfv5 gg port)); memo (spTwo_ok (spSum_ok sumsOK (allPCons (HGfp5_0_ok gg port hg0 hg1 hp0 hp1 hc) (allPCons (HGfp5_1_ok gg port hg0 hg1 hp0 hp1 hc) allPNil))) (spKnown_ok knownBody known)) (tabG_ok (allECons (HGfe5_5_ok gg port hg0 hg1 hp0 hp1 hc) (allECons (HGfe5_6_ok gg port hg0 hg1 hp0 hp1 hc) (allECons (HGfe5_7_ok gg port hg0 hg1 hp0 hp1 hc) (allECons (HGfe5_8_ok gg port hg0 hg1 hp0 hp1 hc) (allECons (HGfe5_9_ok gg port hg0 hg1 hp0 hp1 hc) (allECons (HGfe5_10_ok gg port hg0 hg1 hp0 hp1 hc) (allECons (HGfe5_11_ok gg port hg0 hg1 hp0 hp1 hc) (allECons (HGfe5_12_ok gg port hg0 hg1 hp0 hp1 hc) (allECons (HGfe5_13_ok gg port hg0 hg1 hp0 hp1 hc) (allECons (HGfe5_14_ok gg port hg0 hg1 hp0 hp1 hc) (allECons (HGfe5_15_ok gg port hg0 hg1 hp0 hp1 hc) (allECons (HGfe5_16_ok gg port hg0 hg1 hp0 hp1 hc) (allECons (HGfe5_17_ok gg port hg0 hg1 hp0 hp1 hc) (allECons (HGfe5_18_ok gg port hg0 hg1 hp0 hp1 hc) (allECons (HGfe5_19_ok gg port hg0 hg1 hp0 hp1 hc) (allECons (HGfe5_20_ok gg port hg0 hg1 hp0 hp1 hc) (allECons (HGfe5_21_ok gg port hg0 hg1 hp0 hp1 hc) (allECons (HGfe5_22_ok gg port hg0 hg1 hp0 hp1 hc) (allECons (HGfe5_23_ok gg port hg0 hg1 hp0 hp1 hc) (allECons (HGfe5_24_ok gg port hg0 hg1 hp0 hp1 hc) (allECons (HGfe5_25_ok gg port hg0 hg1 hp0 hp1 hc) (allECons (HGfe5_26_ok gg port hg0 hg1 hp0 hp1 hc) (allECons (HGfe5_27_ok gg port hg0 hg1 hp0 hp1 hc) (allECons (HGfe5_28_ok gg port hg0 hg1 hp0 hp1 hc) allENil))))))))))))))))))))))))) HGfm5_0_chk
theorem grpZ0_false (w : World) (gg port : Int) (hg0 : 0 ≤ gg) (hg1 : gg ≤ 4294967295) (hp0 : -9223372036854775808 ≤ port) (hp1 : port ≤ 9223372036854775807) (hc : HGfK5 gg port) : Calls Tryz.prog 5 #[.int .u32 gg, .bool false, .int .i64 port] w (fun e w' => e = .returned (.bool true) ∧ Only [] w w') :=
  letI : Env := (env (HGfv5 gg port))
  lawT (HGfv5 gg port) (spTwo_ok (spM_ok (allCons (HGfm5_0_ok gg port hg0 hg1 hp0 hp1 hc) allNil)) (spTwo_ok (spSum_ok sumsOK (fun e h => by cases h)) (spKnown_ok knownBody known))) (tabG_ok (allECons (HGfe5_0_ok gg port hg0 hg1 hp0 hp1 hc) (allECons (HGfe5_1_ok gg port hg0 hg1 hp0 hp1 hc) (allECons (HGfe5_2_ok gg port hg0 hg1 hp0 hp1 hc) (allECons (HGfe5_3_ok gg port hg0 hg1 hp0 hp1 hc) (allECons (HGfe5_4_ok gg port hg0 hg1 hp0 hp1 hc) (allECons (HGfe5_5_ok gg port hg0 hg1 hp0 hp1 hc) (allECons (HGfe5_29_ok gg port hg0 hg1 hp0 hp1 hc) (allECons (HGfe5_30_ok gg port hg0 hg1 hp0 hp1 hc) (allECons (HGfe5_31_ok gg port hg0 hg1 hp0 hp1 hc) allENil)))))))))) grpZ0_false_says (PW.cons (.opq 0 rfl (fun b h => by cases h)) (PW.cons (VR.of_flat 6 _ rfl) (PW.cons (.opq 1 rfl (fun b h => by cases h)) (PW.nil _)))) w
theorem HGfm6_0_ok (gg port : Int) (hg0 : 0 ≤ gg) (hg1 : gg ≤ 4294967295) (hp0 : -9223372036854775808 ≤ port) (hp1 : port ≤ 9223372036854775807) (hc : HGfK6 gg port) : @MemoOK (env (HGfv6 gg port)) Tryz.prog HGfm6_0 := letI : Env := (env (HGfv6 gg port)); memo (spTwo_ok (spSum_ok sumsOK (allPCons (HGfp6_0_ok gg port hg0 hg1 hp0 hp1 hc) (allPCons (HGfp6_1_ok gg port hg0 hg1 hp0 hp1 hc) allPNil))) (spKnown_ok knownBody known)) (tabG_ok (allECons (HGfe6_5_ok gg port hg0 hg1 hp0 hp1 hc) (allECons (HGfe6_6_ok gg port hg0 hg1 hp0 hp1 hc) (allECons (HGfe6_7_ok gg port hg0 hg1 hp0 hp1 hc) (allECons (HGfe6_8_ok gg port hg0 hg1 hp0 hp1 hc) (allECons (HGfe6_9_ok gg port hg0 hg1 hp0 hp1 hc) (allECons (HGfe6_10_ok gg port hg0 hg1 hp0 hp1 hc) (allECons (HGfe6_11_ok gg port hg0 hg1 hp0 hp1 hc) (allECons (HGfe6_12_ok gg port hg0 hg1 hp0 hp1 hc) (allECons (HGfe6_13_ok gg port hg0 hg1 hp0 hp1 hc) (allECons (HGfe6_14_ok gg port hg0 hg1 hp0 hp1 hc) (allECons (HGfe6_15_ok gg port hg0 hg1 hp0 hp1 hc) (allECons (HGfe6_16_ok gg port hg0 hg1 hp0 hp1 hc) (allECons (HGfe6_17_ok gg port hg0 hg1 hp0 hp1 hc) (allECons (HGfe6_18_ok gg port hg0 hg1 hp0 hp1 hc) (allECons (HGfe6_19_ok gg port hg0 hg1 hp0 hp1 hc) (allECons (HGfe6_20_ok gg port hg0 hg1 hp0 hp1 hc) (allECons (HGfe6_21_ok gg port hg0 hg1 hp0 hp1 hc) (allECons (HGfe6_22_ok gg port hg0 hg1 hp0 hp1 hc) (allECons (HGfe6_23_ok gg port hg0 hg1 hp0 hp1 hc) (allECons (HGfe6_24_ok gg port hg0 hg1 hp0 hp1 hc) (allECons (HGfe6_25_ok gg port hg0 hg1 hp0 hp1 hc) (allECons (HGfe6_26_ok gg port hg0 hg1 hp0 hp1 hc) (allECons (HGfe6_27_ok gg port hg0 hg1 hp0 hp1 hc) (allECons (HGfe6_28_ok gg port hg0 hg1 hp0 hp1 hc) (allECons (HGfe6_29_ok gg port hg0 hg1 hp0 hp1 hc) (allECons (HGfe6_30_ok gg port hg0 hg1 hp0 hp1 hc) (allECons (HGfe6_31_ok gg port hg0 hg1 hp0 hp1 hc) (allECons (HGfe6_32_ok gg port hg0 hg1 hp0 hp1 hc) allENil))))))))))))))))))))))))))))) HGfm6_0_chk
theorem grpN1_false (w : World) (gg port : Int) (hg0 : 0 ≤ gg) (hg1 : gg ≤ 4294967295) (hp0 : -9223372036854775808 ≤ port) (hp1 : port ≤ 9223372036854775807) (hc : HGfK6 gg port) : Calls Tryz.prog 5 #[.int .u32 gg, .bool false, .int .i64 port] w (fun e w' => e = .returned (.bool true) ∧ Only [] w w') :=
  letI : Env := (env (HGfv6 gg port))
  lawT (HGfv6 gg port) (spTwo_ok (spM_ok (allCons (HGfm6_0_ok gg port hg0 hg1 hp0 hp1 hc) allNil)) (spTwo_ok (spSum_ok sumsOK (fun e h => by cases h)) (spKnown_ok knownBody known))) (tabG_ok (allECons (HGfe6_0_ok gg port hg0 hg1 hp0 hp1 hc) (allECons (HGfe6_1_ok gg port hg0 hg1 hp0 hp1 hc) (allECons (HGfe6_2_ok gg port hg0 hg1 hp0 hp1 hc) (allECons (HGfe6_3_ok gg port hg0 hg1 hp0 hp1 hc) (allECons (HGfe6_4_ok gg port hg0 hg1 hp0 hp1 hc) (allECons (HGfe6_5_ok gg port hg0 hg1 hp0 hp1 hc) (allECons (HGfe6_33_ok gg port hg0 hg1 hp0 hp1 hc) (allECons (HGfe6_34_ok gg port hg0 hg1 hp0 hp1 hc) (allECons (HGfe6_35_ok gg port hg0 hg1 hp0 hp1 hc) allENil)))))))))) grpN1_false_says (PW.cons (.opq 0 rfl (fun b h => by cases h)) (PW.cons (VR.of_flat 6 _ rfl) (PW.cons (.opq 1 rfl (fun b h => by cases h)) (PW.nil _)))) w
theorem HGfm7_0_ok (gg port : Int) (hg0 : 0 ≤ gg) (hg1 : gg ≤ 4294967295) (hp0 : -9223372036854775808 ≤ port) (hp1 : port ≤ 9223372036854775807) (hc : HGfK7 gg port) : @MemoOK (env (HGfv7 gg port)) Tryz.prog HGfm7_0 := letI : Env := (env (HGfv7 gg port)); memo (spTwo_ok (spSum_ok sumsOK (allPCons (HGfp7_0_ok gg port hg0 hg1 hp0 hp1 hc) (allPCons (HGfp7_1_ok gg port hg0 hg1 hp0 hp1 hc) allPNil))) (spKnown_ok knownBody known)) (tabG_ok (allECons (HGfe7_5_ok gg port hg0 hg1 hp0 hp1 hc) (allECons (HGfe7_6_ok gg port hg0 hg1 hp0 hp1 hc) (allECons (HGfe7_7_ok gg port hg0 hg1 hp0 hp1 hc) (allECons (HGfe7_8_ok gg port hg0 hg1 hp0 hp1 hc) (allECons (HGfe7_9_ok gg port hg0 hg1 hp0 hp1 hc) (allECons (HGfe7_10_ok gg port hg0 hg1 hp0 hp1 hc) (allECons (HGfe7_11_ok gg port hg0 hg1 hp0 hp1 hc) (allECons (HGfe7_12_ok gg port hg0 hg1 hp0 hp1 hc) (allECons (HGfe7_13_ok gg port hg0 hg1 hp0 hp1 hc) (allECons (HGfe7_14_ok gg port hg0 hg1 hp0 hp1 hc) (allECons (HGfe7_15_ok gg port hg0 hg1 hp0 hp1 hc) (allECons (HGfe7_16_ok gg port hg0 hg1 hp0 hp1 hc) (allECons (HGfe7_17_ok gg port hg0 hg1 hp0 hp1 hc) (allECons (HGfe7_18_ok gg port hg0 hg1 hp0 hp1 hc) (allECons (HGfe7_19_ok gg port hg0 hg1 hp0 hp1 hc) (allECons (HGfe7_20_ok gg port hg0 hg1 hp0 hp1 hc) (allECons (HGfe7_21_ok gg port hg0 hg1 hp0 hp1 hc) (allECons (HGfe7_22_ok gg port hg0 hg1 hp0 hp1 hc) (allECons (HGfe7_23_ok gg port hg0 hg1 hp0 hp1 hc) (allECons (HGfe7_24_ok gg port hg0 hg1 hp0 hp1 hc) (allECons (HGfe7_25_ok gg port hg0 hg1 hp0 hp1 hc) (allECons (HGfe7_26_ok gg port hg0 hg1 hp0 hp1 hc) (allECons (HGfe7_27_ok gg port hg0 hg1 hp0 hp1 hc) (allECons (HGfe7_28_ok gg port hg0 hg1 hp0 hp1 hc) allENil))))))))))))))))))))))))) HGfm7_0_chk
theorem grpZ1_false (w : World) (gg port : Int) (hg0 : 0 ≤ gg) (hg1 : gg ≤ 4294967295) (hp0 : -9223372036854775808 ≤ port) (hp1 : port ≤ 9223372036854775807) (hc : HGfK7 gg port) : Calls Tryz.prog 5 #[.int .u32 gg, .bool false, .int .i64 port] w (fun e w' => e = .returned (.bool true) ∧ Only [] w w') :=
  letI : Env := (env (HGfv7 gg port))
  lawT (HGfv7 gg port) (spTwo_ok (spM_ok (allCons (HGfm7_0_ok gg port hg0 hg1 hp0 hp1 hc) allNil)) (spTwo_ok (spSum_ok sumsOK (fun e h => by cases h)) (spKnown_ok knownBody known))) (tabG_ok (allECons (HGfe7_0_ok gg port hg0 hg1 hp0 hp1 hc) (allECons (HGfe7_1_ok gg port hg0 hg1 hp0 hp1 hc) (allECons (HGfe7_2_ok gg port hg0 hg1 hp0 hp1 hc) (allECons (HGfe7_3_ok gg port hg0 hg1 hp0 hp1 hc) (allECons (HGfe7_4_ok gg port hg0 hg1 hp0 hp1 hc) (allECons (HGfe7_5_ok gg port hg0 hg1 hp0 hp1 hc) (allECons (HGfe7_29_ok gg port hg0 hg1 hp0 hp1 hc) (allECons (HGfe7_30_ok gg port hg0 hg1 hp0 hp1 hc) (allECons (HGfe7_31_ok gg port hg0 hg1 hp0 hp1 hc) allENil)))))))))) grpZ1_false_says (PW.cons (.opq 0 rfl (fun b h => by cases h)) (PW.cons (VR.of_flat 6 _ rfl) (PW.cons (.opq 1 rfl (fun b h => by cases h)) (PW.nil _)))) w
theorem HGfm8_0_ok (gg port : Int) (hg0 : 0 ≤ gg) (hg1 : gg ≤ 4294967295) (hp0 : -9223372036854775808 ≤ port) (hp1 : port ≤ 9223372036854775807) (hc : HGfK8 gg port) : @MemoOK (env (HGfv8 gg port)) Tryz.prog HGfm8_0 := letI : Env := (env (HGfv8 gg port)); memo (spTwo_ok (spSum_ok sumsOK (allPCons (HGfp8_0_ok gg port hg0 hg1 hp0 hp1 hc) (allPCons (HGfp8_1_ok gg port hg0 hg1 hp0 hp1 hc) allPNil))) (spKnown_ok knownBody known)) (tabG_ok (allECons (HGfe8_5_ok gg port hg0 hg1 hp0 hp1 hc) (allECons (HGfe8_6_ok gg port hg0 hg1 hp0 hp1 hc) (allECons (HGfe8_7_ok gg port hg0 hg1 hp0 hp1 hc) (allECons (HGfe8_8_ok gg port hg0 hg1 hp0 hp1 hc) (allECons (HGfe8_9_ok gg port hg0 hg1 hp0 hp1 hc) (allECons (HGfe8_10_ok gg port hg0 hg1 hp0 hp1 hc) (allECons (HGfe8_11_ok gg port hg0 hg1 hp0 hp1 hc) (allECons (HGfe8_12_ok gg port hg0 hg1 hp0 hp1 hc) (allECons (HGfe8_13_ok gg port hg0 hg1 hp0 hp1 hc) (allECons (HGfe8_14_ok gg port hg0 hg1 hp0 hp1 hc) (allECons (HGfe8_15_ok gg port hg0 hg1 hp0 hp1 hc) (allECons (HGfe8_16_ok gg port hg0 hg1 hp0 hp1 hc) (allECons (HGfe8_17_ok gg port hg0 hg1 hp0 hp1 hc) (allECons (HGfe8_18_ok gg port hg0 hg1 hp0 hp1 hc) (allECons (HGfe8_19_ok gg port hg0 hg1 hp0 hp1 hc) (allECons (HGfe8_20_ok gg port hg0 hg1 hp0 hp1 hc) (allECons (HGfe8_21_ok gg port hg0 hg1 hp0 hp1 hc) (allECons (HGfe8_22_ok gg port hg0 hg1 hp0 hp1 hc) (allECons (HGfe8_23_ok gg port hg0 hg1 hp0 hp1 hc) (allECons (HGfe8_24_ok gg port hg0 hg1 hp0 hp1 hc) (allECons (HGfe8_25_ok gg port hg0 hg1 hp0 hp1 hc) (allECons (HGfe8_26_ok gg port hg0 hg1 hp0 hp1 hc) (allECons (HGfe8_27_ok gg port hg0 hg1 hp0 hp1 hc) (allECons (HGfe8_28_ok gg port hg0 hg1 hp0 hp1 hc) (allECons (HGfe8_29_ok gg port hg0 hg1 hp0 hp1 hc) (allECons (HGfe8_30_ok gg port hg0 hg1 hp0 hp1 hc) (allECons (HGfe8_31_ok gg port hg0 hg1 hp0 hp1 hc) (allECons (HGfe8_32_ok gg port hg0 hg1 hp0 hp1 hc) allENil))))))))))))))))))))))))))))) HGfm8_0_chk
theorem grpN2_false (w : World) (gg port : Int) (hg0 : 0 ≤ gg) (hg1 : gg ≤ 4294967295) (hp0 : -9223372036854775808 ≤ port) (hp1 : port ≤ 9223372036854775807) (hc : HGfK8 gg port) : Calls Tryz.prog 5 #[.int .u32 gg, .bool false, .int .i64 port] w (fun e w' => e = .returned (.bool true) ∧ Only [] w w') :=
  letI : Env := (env (HGfv8 gg port))
  lawT (HGfv8 gg port) (spTwo_ok (spM_ok (allCons (HGfm8_0_ok gg port hg0 hg1 hp0 hp1 hc) allNil)) (spTwo_ok (spSum_ok sumsOK (fun e h => by cases h)) (spKnown_ok knownBody known))) (tabG_ok (allECons (HGfe8_0_ok gg port hg0 hg1 hp0 hp1 hc) (allECons (HGfe8_1_ok gg port hg0 hg1 hp0 hp1 hc) (allECons (HGfe8_2_ok gg port hg0 hg1 hp0 hp1 hc) (allECons (HGfe8_3_ok gg port hg0 hg1 hp0 hp1 hc) (allECons (HGfe8_4_ok gg port hg0 hg1 hp0 hp1 hc) (allECons (HGfe8_5_ok gg port hg0 hg1 hp0 hp1 hc) (allECons (HGfe8_33_ok gg port hg0 hg1 hp0 hp1 hc) (allECons (HGfe8_34_ok gg port hg0 hg1 hp0 hp1 hc) (allECons (HGfe8_35_ok gg port hg0 hg1 hp0 hp1 hc) allENil)))))))))) grpN2_false_says (PW.cons (.opq 0 rfl (fun b h => by cases h)) (PW.cons (VR.of_flat 6 _ rfl) (PW.cons (.opq 1 rfl (fun b h => by cases h)) (PW.nil _)))) w
theorem HGfm9_0_ok (gg port : Int) (hg0 : 0 ≤ gg) (hg1 : gg ≤ 4294967295) (hp0 : -9223372036854775808 ≤ port) (hp1 : port ≤ 9223372036854775807) (hc : HGfK9 gg port) : @MemoOK (env (HGfv9 gg port)) Tryz.prog HGfm9_0 := letI : Env := (env (HGfv9 gg port)); memo (spTwo_ok (spSum_ok sumsOK (allPCons (HGfp9_0_ok gg port hg0 hg1 hp0 hp1 hc) (allPCons (HGfp9_1_ok gg port hg0 hg1 hp0 hp1 hc) allPNil))) (spKnown_ok knownBody known)) (tabG_ok (allECons (HGfe9_5_ok gg port hg0 hg1 hp0 hp1 hc) (allECons (HGfe9_6_ok gg port hg0 hg1 hp0 hp1 hc) (allECons (HGfe9_7_ok gg port hg0 hg1 hp0 hp1 hc) (allECons (HGfe9_8_ok gg port hg0 hg1 hp0 hp1 hc) (allECons (HGfe9_9_ok gg port hg0 hg1 hp0 hp1 hc) (allECons (HGfe9_10_ok gg port hg0 hg1 hp0 hp1 hc) (allECons (HGfe9_11_ok gg port hg0 hg1 hp0 hp1 hc) (allECons (HGfe9_12_ok gg port hg0 hg1 hp0 hp1 hc) (allECons (HGfe9_13_ok gg port hg0 hg1 hp0 hp1 hc) (allECons (HGfe9_14_ok gg port hg0 hg1 hp0 hp1 hc) (allECons (HGfe9_15_ok gg port hg0 hg1 hp0 hp1 hc) (allECons (HGfe9_16_ok gg port hg0 hg1 hp0 hp1 hc) (allECons (HGfe9_17_ok gg port hg0 hg1 hp0 hp1 hc) (allECons (HGfe9_18_ok gg port hg0 hg1 hp0 hp1 hc) (allECons (HGfe9_19_ok gg port hg0 hg1 hp0 hp1 hc) (allECons (HGfe9_20_ok gg port hg0 hg1 hp0 hp1 hc) (allECons (HGfe9_21_ok gg port hg0 hg1 hp0 hp1 hc) (allECons (HGfe9_22_ok gg port hg0 hg1 hp0 hp1 hc) (allECons (HGfe9_23_ok gg port hg0 hg1 hp0 hp1 hc) (allECons (HGfe9_24_ok gg port hg0 hg1 hp0 hp1 hc) (allECons (HGfe9_25_ok gg port hg0 hg1 hp0 hp1 hc) (allECons (HGfe9_26_ok gg port hg0 hg1 hp0 hp1 hc) (allECons (HGfe9_27_ok gg port hg0 hg1 hp0 hp1 hc) (allECons (HGfe9_28_ok gg port hg0 hg1 hp0 hp1 hc) allENil))))))))))))))))))))))))) HGfm9_0_chk
theorem grpZ2_false (w : World) (gg port : Int) (hg0 : 0 ≤ gg) (hg1 : gg ≤ 4294967295) (hp0 : -9223372036854775808 ≤ port) (hp1 : port ≤ 9223372036854775807) (hc : HGfK9 gg port) : Calls Tryz.prog 5 #[.int .u32 gg, .bool false, .int .i64 port] w (fun e w' => e = .returned (.bool true) ∧ Only [] w w') :=
  letI : Env := (env (HGfv9 gg port))
  lawT (HGfv9 gg port) (spTwo_ok (spM_ok (allCons (HGfm9_0_ok gg port hg0 hg1 hp0 hp1 hc) allNil)) (spTwo_ok (spSum_ok sumsOK (fun e h => by cases h)) (spKnown_ok knownBody known))) (tabG_ok (allECons (HGfe9_0_ok gg port hg0 hg1 hp0 hp1 hc) (allECons (HGfe9_1_ok gg port hg0 hg1 hp0 hp1 hc) (allECons (HGfe9_2_ok gg port hg0 hg1 hp0 hp1 hc) (allECons (HGfe9_3_ok gg port hg0 hg1 hp0 hp1 hc) (allECons (HGfe9_4_ok gg port hg0 hg1 hp0 hp1 hc) (allECons (HGfe9_5_ok gg port hg0 hg1 hp0 hp1 hc) (allECons (HGfe9_29_ok gg port hg0 hg1 hp0 hp1 hc) (allECons (HGfe9_30_ok gg port hg0 hg1 hp0 hp1 hc) (allECons (HGfe9_31_ok gg port hg0 hg1 hp0 hp1 hc) allENil)))))))))) grpZ2_false_says (PW.cons (.opq 0 rfl (fun b h => by cases h)) (PW.cons (VR.of_flat 6 _ rfl) (PW.cons (.opq 1 rfl (fun b h => by cases h)) (PW.nil _)))) w
theorem HGfm10_0_ok (gg port : Int) (hg0 : 0 ≤ gg) (hg1 : gg ≤ 4294967295) (hp0 : -9223372036854775808 ≤ port) (hp1 : port ≤ 9223372036854775807) (hc : HGfK10 gg port) : @MemoOK (env (HGfv10 gg port)) Tryz.prog HGfm10_0 := letI : Env := (env (HGfv10 gg port)); memo (spTwo_ok (spSum_ok sumsOK (allPCons (HGfp10_2_ok gg port hg0 hg1 hp0 hp1 hc) allPNil)) (spKnown_ok knownBody known)) (tabG_ok (allECons (HGfe10_33_ok gg port hg0 hg1 hp0 hp1 hc) (allECons (HGfe10_34_ok gg port hg0 hg1 hp0 hp1 hc) (allECons (HGfe10_35_ok gg port hg0 hg1 hp0 hp1 hc) (allECons (HGfe10_36_ok gg port hg0 hg1 hp0 hp1 hc) (allECons (HGfe10_37_ok gg port hg0 hg1 hp0 hp1 hc) (allECons (HGfe10_38_ok gg port hg0 hg1 hp0 hp1 hc) (allECons (HGfe10_39_ok gg port hg0 hg1 hp0 hp1 hc) (allECons (HGfe10_40_ok gg port hg0 hg1 hp0 hp1 hc) (allECons (HGfe10_41_ok gg port hg0 hg1 hp0 hp1 hc) (allECons (HGfe10_42_ok gg port hg0 hg1 hp0 hp1 hc) (allECons (HGfe10_43_ok gg port hg0 hg1 hp0 hp1 hc) (allECons (HGfe10_44_ok gg port hg0 hg1 hp0 hp1 hc) (allECons (HGfe10_45_ok gg port hg0 hg1 hp0 hp1 hc) (allECons (HGfe10_46_ok gg port hg0 hg1 hp0 hp1 hc) (allECons (HGfe10_47_ok gg port hg0 hg1 hp0 hp1 hc) (allECons (HGfe10_48_ok gg port hg0 hg1 hp0 hp1 hc) (allECons (HGfe10_49_ok gg port hg0 hg1 hp0 hp1 hc) (allECons (HGfe10_50_ok gg port hg0 hg1 hp0 hp1 hc) (allECons (HGfe10_51_ok gg port hg0 hg1 hp0 hp1 hc) (allECons (HGfe10_52_ok gg port hg0 hg1 hp0 hp1 hc) (allECons (HGfe10_53_ok gg port hg0 hg1 hp0 hp1 hc) (allECons (HGfe10_54_ok gg port hg0 hg1 hp0 hp1 hc) (allECons (HGfe10_55_ok gg port hg0 hg1 hp0 hp1 hc) (allECons (HGfe10_56_ok gg port hg0 hg1 hp0 hp1 hc) (allECons (HGfe10_57_ok gg port hg0 hg1 hp0 hp1 hc) allENil)))))))))))))))))))))))))) HGfm10_0_chk
theorem HGfm10_1_ok (gg port : Int) (hg0 : 0 ≤ gg) (hg1 : gg ≤ 4294967295) (hp0 : -9223372036854775808 ≤ port) (hp1 : port ≤ 9223372036854775807) (hc : HGfK10 gg port) : @MemoOK (env (HGfv10 gg port)) Tryz.prog HGfm10_1 := letI : Env := (env (HGfv10 gg port)); memo (spTwo_ok (spSum_ok sumsOK (allPCons (HGfp10_0_ok gg port hg0 hg1 hp0 hp1 hc) (allPCons (HGfp10_1_ok gg port hg0 hg1 hp0 hp1 hc) allPNil))) (spKnown_ok knownBody known)) (tabG_ok (allECons (HGfe10_5_ok gg port hg0 hg1 hp0 hp1 hc) (allECons (HGfe10_6_ok gg port hg0 hg1 hp0 hp1 hc) (allECons (HGfe10_7_ok gg port hg0 hg1 hp0 hp1 hc) (allECons (HGfe10_8_ok gg port hg0 hg1 hp0 hp1 hc) (allECons (HGfe10_9_ok gg port hg0 hg1 hp0 hp1 hc) (allECons (HGfe10_10_ok gg port hg0 hg1 hp0 hp1 hc) (allECons (HGfe10_11_ok gg port hg0 hg1 hp0 hp1 hc) (allECons (HGfe10_12_ok gg port hg0 hg1 hp0 hp1 hc) (allECons (HGfe10_13_ok gg port hg0 hg1 hp0 hp1 hc) (allECons (HGfe10_14_ok gg port hg0 hg1 hp0 hp1 hc) (allECons (HGfe10_15_ok gg port hg0 hg1 hp0 hp1 hc) (allECons (HGfe10_16_ok gg port hg0 hg1 hp0 hp1 hc) (allECons (HGfe10_17_ok gg port hg0 hg1 hp0 hp1 hc) (allECons (HGfe10_18_ok gg port hg0 hg1 hp0 hp1 hc) (allECons (HGfe10_19_ok gg port hg0 hg1 hp0 hp1 hc) (allECons (HGfe10_20_ok gg port hg0 hg1 hp0 hp1 hc) (allECons (HGfe10_21_ok gg port hg0 hg1 hp0 hp1 hc) (allECons (HGfe10_22_ok gg port hg0 hg1 hp0 hp1 hc) (allECons (HGfe10_23_ok gg port hg0 hg1 hp0 hp1 hc) (allECons (HGfe10_24_ok gg port hg0 hg1 hp0 hp1 hc) (allECons (HGfe10_25_ok gg port hg0 hg1 hp0 hp1 hc) (allECons (HGfe10_26_ok gg port hg0 hg1 hp0 hp1 hc) (allECons (HGfe10_27_ok gg port hg0 hg1 hp0 hp1 hc) (allECons (HGfe10_28_ok gg port hg0 hg1 hp0 hp1 hc) (allECons (HGfe10_29_ok gg port hg0 hg1 hp0 hp1 hc) (allECons (HGfe10_30_ok gg port hg0 hg1 hp0 hp1 hc) (allECons (HGfe10_31_ok gg port hg0 hg1 hp0 hp1 hc) (allECons (HGfe10_32_ok gg port hg0 hg1 hp0 hp1 hc) allENil))))))))))))))))))))))))))))) HGfm10_1_chk
theorem grpN3_false (w : World) (gg port : Int) (hg0 : 0 ≤ gg) (hg1 : gg ≤ 4294967295) (hp0 : -9223372036854775808 ≤ port) (hp1 : port ≤ 9223372036854775807) (hc : HGfK10 gg port) : Calls Tryz.prog 5 #[.int .u32 gg, .bool false, .int .i64 port] w (fun e w' => e = .returned (.bool true) ∧ Only [] w w') :=
  letI : Env := (env (HGfv10 gg port))
  lawT (HGfv10 gg port) (spTwo_ok (spM_ok (allCons (HGfm10_1_ok gg port hg0 hg1 hp0 hp1 hc) (allCons (HGfm10_0_ok gg port hg0 hg1 hp0 hp1 hc) allNil))) (spTwo_ok (spSum_ok sumsOK (fun e h => by cases h)) (spKnown_ok knownBody known))) (tabG_ok (allECons (HGfe10_0_ok gg port hg0 hg1 hp0 hp1 hc) (allECons (HGfe10_1_ok gg port hg0 hg1 hp0 hp1 hc) (allECons (HGfe10_2_ok gg port hg0 hg1 hp0 hp1 hc) (allECons (HGfe10_3_ok gg port hg0 hg1 hp0 hp1 hc) (allECons (HGfe10_4_ok gg port hg0 hg1 hp0 hp1 hc) (allECons (HGfe10_5_ok gg port hg0 hg1 hp0 hp1 hc) allENil))))))) grpN3_false_says (PW.cons (.opq 0 rfl (fun b h => by cases h)) (PW.cons (VR.of_flat 6 _ rfl) (PW.cons (.opq 1 rfl (fun b h => by cases h)) (PW.nil _)))) w
theorem HGfm11_0_ok (gg port : Int) (hg0 : 0 ≤ gg) (hg1 : gg ≤ 4294967295) (hp0 : -9223372036854775808 ≤ port) (hp1 : port ≤ 9223372036854775807) (hc : HGfK11 gg port) : @MemoOK (env (HGfv11 gg port)) Tryz.prog HGfm11_0 := letI : Env := (env (HGfv11 gg port)); memo (spTwo_ok (spSum_ok sumsOK (allPCons (HGfp11_2_ok gg port hg0 hg1 hp0 hp1 hc) allPNil)) (spKnown_ok knownBody known)) (tabG_ok (allECons (HGfe11_29_ok gg port hg0 hg1 hp0 hp1 hc) (allECons (HGfe11_30_ok gg port hg0 hg1 hp0 hp1 hc) (allECons (HGfe11_31_ok gg port hg0 hg1 hp0 hp1 hc) (allECons (HGfe11_32_ok gg port hg0 hg1 hp0 hp1 hc) (allECons (HGfe11_33_ok gg port hg0 hg1 hp0 hp1 hc) (allECons (HGfe11_34_ok gg port hg0 hg1 hp0 hp1 hc) (allECons (HGfe11_35_ok gg port hg0 hg1 hp0 hp1 hc) (allECons (HGfe11_36_ok gg port hg0 hg1 hp0 hp1 hc) (allECons (HGfe11_37_ok gg port hg0 hg1 hp0 hp1 hc) (allECons (HGfe11_38_ok gg port hg0 hg1 hp0 hp1 hc) (allECons (HGfe11_39_ok gg port hg0 hg1 hp0 hp1 hc) (allECons (HGfe11_40_ok gg port hg0 hg1 hp0 hp1 hc) (allECons (HGfe11_41_ok gg port hg0 hg1 hp0 hp1 hc) (allECons (HGfe11_42_ok gg port hg0 hg1 hp0 hp1 hc) (allECons (HGfe11_43_ok gg port hg0 hg1 hp0 hp1 hc) (allECons (HGfe11_44_ok gg port hg0 hg1 hp0 hp1 hc) (allECons (HGfe11_45_ok gg port hg0 hg1 hp0 hp1 hc) (allECons (HGfe11_46_ok gg port hg0 hg1 hp0 hp1 hc) (allECons (HGfe11_47_ok gg port hg0 hg1 hp0 hp1 hc) (allECons (HGfe11_48_ok gg port hg0 hg1 hp0 hp1 hc) (allECons (HGfe11_49_ok gg port hg0 hg1 hp0 hp1 hc) (allECons (HGfe11_50_ok gg port hg0 hg1 hp0 hp1 hc) (allECons (HGfe11_51_ok gg port hg0 hg1 hp0 hp1 hc) (allECons (HGfe11_52_ok gg port hg0 hg1 hp0 hp1 hc) (allECons (HGfe11_53_ok gg port hg0 hg1 hp0 hp1 hc) allENil)))))))))))))))))))))))))) HGfm11_0_chk
theorem HGfm11_1_ok (gg port : Int) (hg0 : 0 ≤ gg) (hg1 : gg ≤ 4294967295) (hp0 : -9223372036854775808 ≤ port) (hp1 : port ≤ 9223372036854775807) (hc : HGfK11 gg port) : @MemoOK (env (HGfv11 gg port)) Tryz.prog HGfm11_1 := letI : Env := (env (HGfv11 gg port)); memo (spTwo_ok (spSum_ok sumsOK (allPCons (HGfp11_0_ok gg port hg0 hg1 hp0 hp1 hc) (allPCons (HGfp11_1_ok gg port hg0 hg1 hp0 hp1 hc) allPNil))) (spKnown_ok knownBody known)) (tabG_ok (allECons (HGfe11_5_ok gg port hg0 hg1 hp0 hp1 hc) (allECons (HGfe11_6_ok gg port hg0 hg1 hp0 hp1 hc) (allECons (HGfe11_7_ok gg port hg0 hg1 hp0 hp1 hc) (allECons (HGfe11_8_ok gg port hg0 hg1 hp0 hp1 hc) (allECons (HGfe11_9_ok gg port hg0 hg1 hp0 hp1 hc) (allECons (HGfe11_10_ok gg port hg0 hg1 hp0 hp1 hc) (allECons (HGfe11_11_ok gg port hg0 hg1 hp0 hp1 hc) (allECons (HGfe11_12_ok gg port hg0 hg1 hp0 hp1 hc) (allECons (HGfe11_13_ok gg port hg0 hg1 hp0 hp1 hc) (allECons (HGfe11_14_ok gg port hg0 hg1 hp0 hp1 hc) (allECons (HGfe11_15_ok gg port hg0 hg1 hp0 hp1 hc) (allECons (HGfe11_16_ok gg port hg0 hg1 hp0 hp1 hc) (allECons (HGfe11_17_ok gg port hg0 hg1 hp0 hp1 hc) (allECons (HGfe11_18_ok gg port hg0 hg1 hp0 hp1 hc) (allECons (HGfe11_19_ok gg port hg0 hg1 hp0 hp1 hc) (allECons (HGfe11_20_ok gg port hg0 hg1 hp0 hp1 hc) (allECons (HGfe11_21_ok gg port hg0 hg1 hp0 hp1 hc) (allECons (HGfe11_22_ok gg port hg0 hg1 hp0 hp1 hc) (allECons (HGfe11_23_ok gg port hg0 hg1 hp0 hp1 hc) (allECons (HGfe11_24_ok gg port hg0 hg1 hp0 hp1 hc) (allECons (HGfe11_25_ok gg port hg0 hg1 hp0 hp1 hc) (allECons (HGfe11_26_ok gg port hg0 hg1 hp0 hp1 hc) (allECons (HGfe11_27_ok gg port hg0 hg1 hp0 hp1 hc) (allECons (HGfe11_28_ok gg port hg0 hg1 hp0 hp1 hc) allENil))))))))))))))))))))))))) HGfm11_1_chk
theorem grpZ3_false (w : World) (gg port : Int) (hg0 : 0 ≤ gg) (hg1 : gg ≤ 4294967295) (hp0 : -9223372036854775808 ≤ port) (hp1 : port ≤ 9223372036854775807) (hc : HGfK11 gg port) : Calls Tryz.prog 5 #[.int .u32 gg, .bool false, .int .i64 port] w (fun e w' => e = .returned (.bool true) ∧ Only [] w w') :=
  letI : Env := (env (HGfv11 gg port))
  lawT (HGfv11 gg port) (spTwo_ok (spM_ok (allCons (HGfm11_1_ok gg port hg0 hg1 hp0 hp1 hc) (allCons (HGfm11_0_ok gg port hg0 hg1 hp0 hp1 hc) allNil))) (spTwo_ok (spSum_ok sumsOK (fun e h => by cases h)) (spKnown_ok knownBody known))) (tabG_ok (allECons (HGfe11_0_ok gg port hg0 hg1 hp0 hp1 hc) (allECons (HGfe11_1_ok gg port hg0 hg1 hp0 hp1 hc) (allECons (HGfe11_2_ok gg port hg0 hg1 hp0 hp1 hc) (allECons (HGfe11_3_ok gg port hg0 hg1 hp0 hp1 hc) (allECons (HGfe11_4_ok gg port hg0 hg1 hp0 hp1 hc) (allECons (HGfe11_5_ok gg port hg0 hg1 hp0 hp1 hc) allENil))))))) grpZ3_false_says (PW.cons (.opq 0 rfl (fun b h => by cases h)) (PW.cons (VR.of_flat 6 _ rfl) (PW.cons (.opq 1 rfl (fun b h => by cases h)) (PW.nil _)))) w
theorem hostGroups_false (w : World) (gg port : Int) (hg0 : 0 ≤ gg) (hg1 : gg ≤ 4294967295) (hp0 : -9223372036854775808 ≤ port) (hp1 : port ≤ 9223372036854775807) : Calls Tryz.prog 5 #[.int .u32 gg, .bool false, .int .i64 port] w (fun e w' => e = .returned (.bool true) ∧ Only [] w w') := by
  by_cases h1 : port < 1
  ·
    exact grpL_false w gg port hg0 hg1 hp0 hp1 ⟨h1, trivial⟩
  ·
    by_cases h2 : port > 65535
    ·
      exact grpH_false w gg port hg0 hg1 hp0 hp1 ⟨h1, h2, trivial⟩
    ·
      by_cases h3 : gg ≤ 3758096385
      ·
        exact grpA_false w gg port hg0 hg1 hp0 hp1 ⟨h1, h2, h3, trivial⟩
      ·
        by_cases h4 : gg ≥ 4026531840
        ·
          exact grpB_false w gg port hg0 hg1 hp0 hp1 ⟨h1, h2, h3, h4, trivial⟩
        ·
          by_cases h5 : port ≥ 1
          ·
            by_cases h6 : port ≤ 65535
            ·
              by_cases h7 : port ≥ 0
              ·
                by_cases h8 : (sumVal true [10, 0, 0, 1, (gg / 16777216), ((gg / 65536) % 256), ((gg / 256) % 256), (gg % 256), 0, 17, 0, 9, 0, 5, (((port % 18446744073709551616) / 256) % 256), ((port % 18446744073709551616) % 256), 0, 9, 0, 0, 120]) = 0
                ·
                  by_cases h9 : gg = 167772161
                  ·
                    exfalso; omega
                  ·
                    by_cases h10 : gg = 4294967295
                    ·
                      exfalso; omega
                    ·
                      by_cases h11 : gg = 167772415
                      ·
                        exfalso; omega
                      ·
                        by_cases h12 : gg ≥ 3758096384
                        ·
                          by_cases h13 : gg < 4026531840
                          ·
                            by_cases h14 : (band .u8 ((gg / 65536) % 256) 127) = 0
                            ·
                              by_cases h15 : ((gg / 256) % 256) = 0
                              ·
                                by_cases h16 : (gg % 256) = 1
                                ·
                                  by_cases h17 : (((((((gg / 16777216) * 256) + ((gg / 65536) % 256)) * 256) + ((gg / 256) % 256)) * 256) + (gg % 256)) = 167772162
                                  ·
                                    exfalso; omega
                                  ·
                                    by_cases h18 : (((((((gg / 16777216) * 256) + ((gg / 65536) % 256)) * 256) + ((gg / 256) % 256)) * 256) + (gg % 256)) = 4294967295
                                    ·
                                      exfalso; omega
                                    ·
                                      by_cases h19 : (((((((gg / 16777216) * 256) + ((gg / 65536) % 256)) * 256) + ((gg / 256) % 256)) * 256) + (gg % 256)) = 167772415
                                      ·
                                        exfalso; omega
                                      ·
                                        by_cases h20 : (((((((gg / 16777216) * 256) + ((gg / 65536) % 256)) * 256) + ((gg / 256) % 256)) * 256) + (gg % 256)) = 3758096385
                                        ·
                                          exfalso; omega
                                        ·
                                          exact grpZ3_false w gg port hg0 hg1 hp0 hp1 ⟨h1, h2, h3, h4, h5, h6, h7, h8, h9, h10, h11, h12, h13, h14, h15, h16, h17, h18, h19, h20, trivial⟩
                                ·
                                  exact grpZ2_false w gg port hg0 hg1 hp0 hp1 ⟨h1, h2, h3, h4, h5, h6, h7, h8, h9, h10, h11, h12, h13, h14, h15, h16, trivial⟩
                              ·
                                exact grpZ1_false w gg port hg0 hg1 hp0 hp1 ⟨h1, h2, h3, h4, h5, h6, h7, h8, h9, h10, h11, h12, h13, h14, h15, trivial⟩
                            ·
                              exact grpZ0_false w gg port hg0 hg1 hp0 hp1 ⟨h1, h2, h3, h4, h5, h6, h7, h8, h9, h10, h11, h12, h13, h14, trivial⟩
                          ·
                            exfalso; omega
                        ·
                          exfalso; omega
                ·
                  by_cases h9 : gg = 167772161
                  ·
                    exfalso; omega
                  ·
                    by_cases h10 : gg = 4294967295
                    ·
                      exfalso; omega
                    ·
                      by_cases h11 : gg = 167772415
                      ·
                        exfalso; omega
                      ·
                        by_cases h12 : gg ≥ 3758096384
                        ·
                          by_cases h13 : gg < 4026531840
                          ·
                            by_cases h14 : (band .u8 ((gg / 65536) % 256) 127) = 0
                            ·
                              by_cases h15 : ((gg / 256) % 256) = 0
                              ·
                                by_cases h16 : (gg % 256) = 1
                                ·
                                  by_cases h17 : (((((((gg / 16777216) * 256) + ((gg / 65536) % 256)) * 256) + ((gg / 256) % 256)) * 256) + (gg % 256)) = 167772162
                                  ·
                                    exfalso; omega
                                  ·
                                    by_cases h18 : (((((((gg / 16777216) * 256) + ((gg / 65536) % 256)) * 256) + ((gg / 256) % 256)) * 256) + (gg % 256)) = 4294967295
                                    ·
                                      exfalso; omega
                                    ·
                                      by_cases h19 : (((((((gg / 16777216) * 256) + ((gg / 65536) % 256)) * 256) + ((gg / 256) % 256)) * 256) + (gg % 256)) = 167772415
                                      ·
                                        exfalso; omega
                                      ·
                                        by_cases h20 : (((((((gg / 16777216) * 256) + ((gg / 65536) % 256)) * 256) + ((gg / 256) % 256)) * 256) + (gg % 256)) = 3758096385
                                        ·
                                          exfalso; omega
                                        ·
                                          exact grpN3_false w gg port hg0 hg1 hp0 hp1 ⟨h1, h2, h3, h4, h5, h6, h7, h8, h9, h10, h11, h12, h13, h14, h15, h16, h17, h18, h19, h20, trivial⟩
                                ·
                                  exact grpN2_false w gg port hg0 hg1 hp0 hp1 ⟨h1, h2, h3, h4, h5, h6, h7, h8, h9, h10, h11, h12, h13, h14, h15, h16, trivial⟩
                              ·
                                exact grpN1_false w gg port hg0 hg1 hp0 hp1 ⟨h1, h2, h3, h4, h5, h6, h7, h8, h9, h10, h11, h12, h13, h14, h15, trivial⟩
                            ·
                              exact grpN0_false w gg port hg0 hg1 hp0 hp1 ⟨h1, h2, h3, h4, h5, h6, h7, h8, h9, h10, h11, h12, h13, h14, trivial⟩
                          ·
                            exfalso; omega
                        ·
                          exfalso; omega
              ·
                exfalso; omega
            ·
              exfalso; omega
          ·
            exfalso; omega

theorem hostGroups (w : World) (gg : Int) (b : Bool) (port : Int) (hg0 : 0 ≤ gg) (hg1 : gg ≤ 4294967295) (hp0 : -9223372036854775808 ≤ port) (hp1 : port ≤ 9223372036854775807) : Calls Tryz.prog 5 #[.int .u32 gg, .bool b, .int .i64 port] w (fun e w' => e = .returned (.bool true) ∧ Only [] w w') := by
  cases b
  · exact hostGroups_false w gg port hg0 hg1 hp0 hp1
  · exact hostGroups_true w gg port hg0 hg1 hp0 hp1
end Go.Proofs.YtjehddcgbgfhdaaGreat.ev
