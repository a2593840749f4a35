/-
  HostRefused, for both truth values, put together. Conditions: none.
-/
import Derived.Test.YtjehddcgbgfhdaaGreatEvHRtCa
import Derived.Test.YtjehddcgbgfhdaaGreatEvHRtCb
import Derived.Test.YtjehddcgbgfhdaaGreatEvHRtCc
import Derived.Test.YtjehddcgbgfhdaaGreatEvHRtEa
import Derived.Test.YtjehddcgbgfhdaaGreatEvHRfCa
import Derived.Test.YtjehddcgbgfhdaaGreatEvHRfCb
import Derived.Test.YtjehddcgbgfhdaaGreatEvHRfCc
import Derived.Test.YtjehddcgbgfhdaaGreatEvHRfEa
namespace Go.Proofs.YtjehddcgbgfhdaaGreat.ev
set_option maxRecDepth 1000000
set_option linter.unusedVariables false
set_option linter.unusedSimpArgs false
theorem refL_true (w : World) (port : Int) (hp0 : -9223372036854775808 ≤ port) (hp1 : port ≤ 9223372036854775807) (hc : HRtK0 port) : Calls Tryz.prog 4 #[.int .i64 port, .bool true] w (fun e w' => e = .returned (.bool true) ∧ Only [] w w') :=
  letI : Env := (env (HRtv0 port))
  lawT (HRtv0 port) (spTwo_ok (spSum_ok sumsOK (fun e h => by cases h)) (spKnown_ok knownBody known)) (tabG_ok (allECons (HRte0_0_ok port hp0 hp1 hc) allENil)) refL_true_says (PW.cons (.opq 0 rfl (fun b h => by cases h)) (PW.cons (VR.of_flat 6 _ rfl) (PW.nil _))) w
theorem refH_true (w : World) (port : Int) (hp0 : -9223372036854775808 ≤ port) (hp1 : port ≤ 9223372036854775807) (hc : HRtK1 port) : Calls Tryz.prog 4 #[.int .i64 port, .bool true] w (fun e w' => e = .returned (.bool true) ∧ Only [] w w') :=
  letI : Env := (env (HRtv1 port))
  lawT (HRtv1 port) (spTwo_ok (spSum_ok sumsOK (fun e h => by cases h)) (spKnown_ok knownBody known)) (tabG_ok (allECons (HRte1_0_ok port hp0 hp1 hc) (allECons (HRte1_1_ok port hp0 hp1 hc) allENil))) refH_true_says (PW.cons (.opq 0 rfl (fun b h => by cases h)) (PW.cons (VR.of_flat 6 _ rfl) (PW.nil _))) w
theorem HRtm2_0_ok (port : Int) (hp0 : -9223372036854775808 ≤ port) (hp1 : port ≤ 9223372036854775807) (hc : HRtK2 port) : @MemoOK (env (HRtv2 port)) Tryz.prog HRtm2_0 := letI : Env := (env (HRtv2 port)); memo (spTwo_ok (spSum_ok sumsOK (allPCons (HRtp2_3_ok port hp0 hp1 hc) allPNil)) (spKnown_ok knownBody known)) (tabG_ok (allECons (HRte2_14_ok port hp0 hp1 hc) (allECons (HRte2_15_ok port hp0 hp1 hc) (allECons (HRte2_16_ok port hp0 hp1 hc) (allECons (HRte2_17_ok port hp0 hp1 hc) (allECons (HRte2_18_ok port hp0 hp1 hc) (allECons (HRte2_19_ok port hp0 hp1 hc) (allECons (HRte2_32_ok port hp0 hp1 hc) (allECons (HRte2_33_ok port hp0 hp1 hc) (allECons (HRte2_34_ok port hp0 hp1 hc) (allECons (HRte2_35_ok port hp0 hp1 hc) (allECons (HRte2_36_ok port hp0 hp1 hc) (allECons (HRte2_37_ok port hp0 hp1 hc) (allECons (HRte2_38_ok port hp0 hp1 hc) (allECons (HRte2_39_ok port hp0 hp1 hc) (allECons (HRte2_40_ok port hp0 hp1 hc) allENil)))))))))))))))) HRtm2_0_chk
theorem HRtm2_1_ok (port : Int) (hp0 : -9223372036854775808 ≤ port) (hp1 : port ≤ 9223372036854775807) (hc : HRtK2 port) : @MemoOK (env (HRtv2 port)) Tryz.prog HRtm2_1 := letI : Env := (env (HRtv2 port)); memo (spTwo_ok (spSum_ok sumsOK (allPCons (HRtp2_2_ok port hp0 hp1 hc) allPNil)) (spKnown_ok knownBody known)) (tabG_ok (allECons (HRte2_28_ok port hp0 hp1 hc) (allECons (HRte2_29_ok port hp0 hp1 hc) (allECons (HRte2_30_ok port hp0 hp1 hc) (allECons (HRte2_31_ok port hp0 hp1 hc) allENil))))) HRtm2_1_chk
theorem HRtm2_2_ok (port : Int) (hp0 : -9223372036854775808 ≤ port) (hp1 : port ≤ 9223372036854775807) (hc : HRtK2 port) : @MemoOK (env (HRtv2 port)) Tryz.prog HRtm2_2 := letI : Env := (env (HRtv2 port)); memo (spTwo_ok (spM_ok (allCons (HRtm2_1_ok port hp0 hp1 hc) allNil)) (spTwo_ok (spSum_ok sumsOK (allPCons (HRtp2_1_ok port hp0 hp1 hc) allPNil)) (spKnown_ok knownBody known))) (tabG_ok (allECons (HRte2_14_ok port hp0 hp1 hc) (allECons (HRte2_15_ok port hp0 hp1 hc) (allECons (HRte2_16_ok port hp0 hp1 hc) (allECons (HRte2_17_ok port hp0 hp1 hc) (allECons (HRte2_18_ok port hp0 hp1 hc) (allECons (HRte2_19_ok port hp0 hp1 hc) (allECons (HRte2_20_ok port hp0 hp1 hc) (allECons (HRte2_21_ok port hp0 hp1 hc) (allECons (HRte2_22_ok port hp0 hp1 hc) (allECons (HRte2_23_ok port hp0 hp1 hc) (allECons (HRte2_24_ok port hp0 hp1 hc) (allECons (HRte2_25_ok port hp0 hp1 hc) (allECons (HRte2_26_ok port hp0 hp1 hc) (allECons (HRte2_27_ok port hp0 hp1 hc) allENil))))))))))))))) HRtm2_2_chk
theorem HRtm2_3_ok (port : Int) (hp0 : -9223372036854775808 ≤ port) (hp1 : port ≤ 9223372036854775807) (hc : HRtK2 port) : @MemoOK (env (HRtv2 port)) Tryz.prog HRtm2_3 := letI : Env := (env (HRtv2 port)); memo (spTwo_ok (spM_ok (allCons (HRtm2_2_ok port hp0 hp1 hc) (allCons (HRtm2_0_ok port hp0 hp1 hc) allNil))) (spTwo_ok (spSum_ok sumsOK (fun e h => by cases h)) (spKnown_ok knownBody known))) noTab_ok HRtm2_3_chk
theorem HRtm2_4_ok (port : Int) (hp0 : -9223372036854775808 ≤ port) (hp1 : port ≤ 9223372036854775807) (hc : HRtK2 port) : @MemoOK (env (HRtv2 port)) Tryz.prog HRtm2_4 := letI : Env := (env (HRtv2 port)); memo (spTwo_ok (spSum_ok sumsOK (allPCons (HRtp2_0_ok port hp0 hp1 hc) allPNil)) (spKnown_ok knownBody known)) (tabG_ok (allECons (HRte2_2_ok port hp0 hp1 hc) (allECons (HRte2_3_ok port hp0 hp1 hc) (allECons (HRte2_5_ok port hp0 hp1 hc) (allECons (HRte2_6_ok port hp0 hp1 hc) (allECons (HRte2_7_ok port hp0 hp1 hc) (allECons (HRte2_8_ok port hp0 hp1 hc) (allECons (HRte2_9_ok port hp0 hp1 hc) (allECons (HRte2_10_ok port hp0 hp1 hc) (allECons (HRte2_11_ok port hp0 hp1 hc) (allECons (HRte2_12_ok port hp0 hp1 hc) (allECons (HRte2_13_ok port hp0 hp1 hc) allENil)))))))))))) HRtm2_4_chk
theorem refN_true (w : World) (port : Int) (hp0 : -9223372036854775808 ≤ port) (hp1 : port ≤ 9223372036854775807) (hc : HRtK2 port) : Calls Tryz.prog 4 #[.int .i64 port, .bool true] w (fun e w' => e = .returned (.bool true) ∧ Only [] w w') :=
  letI : Env := (env (HRtv2 port))
  lawT (HRtv2 port) (spTwo_ok (spM_ok (allCons (HRtm2_4_ok port hp0 hp1 hc) (allCons (HRtm2_3_ok port hp0 hp1 hc) allNil))) (spTwo_ok (spSum_ok sumsOK (fun e h => by cases h)) (spKnown_ok knownBody known))) (tabG_ok (allECons (HRte2_0_ok port hp0 hp1 hc) (allECons (HRte2_1_ok port hp0 hp1 hc) (allECons (HRte2_2_ok port hp0 hp1 hc) (allECons (HRte2_3_ok port hp0 hp1 hc) (allECons (HRte2_4_ok port hp0 hp1 hc) allENil)))))) refN_true_says (PW.cons (.opq 0 rfl (fun b h => by cases h)) (PW.cons (VR.of_flat 6 _ rfl) (PW.nil _))) w
theorem HRtm3_0_ok (port : Int) (hp0 : -9223372036854775808 ≤ port) (hp1 : port ≤ 9223372036854775807) (hc : HRtK3 port) : @MemoOK (env (HRtv3 port)) Tryz.prog HRtm3_0 := letI : Env := (env (HRtv3 port)); memo (spTwo_ok (spSum_ok sumsOK (allPCons (HRtp3_3_ok port hp0 hp1 hc) allPNil)) (spKnown_ok knownBody known)) (tabG_ok (allECons (HRte3_10_ok port hp0 hp1 hc) (allECons (HRte3_11_ok port hp0 hp1 hc) (allECons (HRte3_12_ok port hp0 hp1 hc) (allECons (HRte3_13_ok port hp0 hp1 hc) (allECons (HRte3_14_ok port hp0 hp1 hc) (allECons (HRte3_15_ok port hp0 hp1 hc) (allECons (HRte3_21_ok port hp0 hp1 hc) (allECons (HRte3_22_ok port hp0 hp1 hc) (allECons (HRte3_23_ok port hp0 hp1 hc) (allECons (HRte3_24_ok port hp0 hp1 hc) (allECons (HRte3_25_ok port hp0 hp1 hc) (allECons (HRte3_26_ok port hp0 hp1 hc) (allECons (HRte3_27_ok port hp0 hp1 hc) (allECons (HRte3_28_ok port hp0 hp1 hc) (allECons (HRte3_29_ok port hp0 hp1 hc) allENil)))))))))))))))) HRtm3_0_chk
theorem HRtm3_1_ok (port : Int) (hp0 : -9223372036854775808 ≤ port) (hp1 : port ≤ 9223372036854775807) (hc : HRtK3 port) : @MemoOK (env (HRtv3 port)) Tryz.prog HRtm3_1 := letI : Env := (env (HRtv3 port)); memo (spTwo_ok (spSum_ok sumsOK (allPCons (HRtp3_2_ok port hp0 hp1 hc) allPNil)) (spKnown_ok knownBody known)) (tabG_ok (allECons (HRte3_17_ok port hp0 hp1 hc) (allECons (HRte3_18_ok port hp0 hp1 hc) (allECons (HRte3_19_ok port hp0 hp1 hc) (allECons (HRte3_20_ok port hp0 hp1 hc) allENil))))) HRtm3_1_chk
theorem HRtm3_2_ok (port : Int) (hp0 : -9223372036854775808 ≤ port) (hp1 : port ≤ 9223372036854775807) (hc : HRtK3 port) : @MemoOK (env (HRtv3 port)) Tryz.prog HRtm3_2 := letI : Env := (env (HRtv3 port)); memo (spTwo_ok (spM_ok (allCons (HRtm3_1_ok port hp0 hp1 hc) allNil)) (spTwo_ok (spSum_ok sumsOK (allPCons (HRtp3_1_ok port hp0 hp1 hc) allPNil)) (spKnown_ok knownBody known))) (tabG_ok (allECons (HRte3_10_ok port hp0 hp1 hc) (allECons (HRte3_11_ok port hp0 hp1 hc) (allECons (HRte3_12_ok port hp0 hp1 hc) (allECons (HRte3_13_ok port hp0 hp1 hc) (allECons (HRte3_14_ok port hp0 hp1 hc) (allECons (HRte3_15_ok port hp0 hp1 hc) (allECons (HRte3_16_ok port hp0 hp1 hc) allENil)))))))) HRtm3_2_chk
theorem HRtm3_3_ok (port : Int) (hp0 : -9223372036854775808 ≤ port) (hp1 : port ≤ 9223372036854775807) (hc : HRtK3 port) : @MemoOK (env (HRtv3 port)) Tryz.prog HRtm3_3 := letI : Env := (env (HRtv3 port)); memo (spTwo_ok (spM_ok (allCons (HRtm3_2_ok port hp0 hp1 hc) (allCons (HRtm3_0_ok port hp0 hp1 hc) allNil))) (spTwo_ok (spSum_ok sumsOK (fun e h => by cases h)) (spKnown_ok knownBody known))) noTab_ok HRtm3_3_chk
theorem HRtm3_4_ok (port : Int) (hp0 : -9223372036854775808 ≤ port) (hp1 : port ≤ 9223372036854775807) (hc : HRtK3 port) : @MemoOK (env (HRtv3 port)) Tryz.prog HRtm3_4 := letI : Env := (env (HRtv3 port)); memo (spTwo_ok (spSum_ok sumsOK (allPCons (HRtp3_0_ok port hp0 hp1 hc) allPNil)) (spKnown_ok knownBody known)) (tabG_ok (allECons (HRte3_2_ok port hp0 hp1 hc) (allECons (HRte3_3_ok port hp0 hp1 hc) (allECons (HRte3_5_ok port hp0 hp1 hc) (allECons (HRte3_6_ok port hp0 hp1 hc) (allECons (HRte3_7_ok port hp0 hp1 hc) (allECons (HRte3_8_ok port hp0 hp1 hc) (allECons (HRte3_9_ok port hp0 hp1 hc) allENil)))))))) HRtm3_4_chk
theorem refZ_true (w : World) (port : Int) (hp0 : -9223372036854775808 ≤ port) (hp1 : port ≤ 9223372036854775807) (hc : HRtK3 port) : Calls Tryz.prog 4 #[.int .i64 port, .bool true] w (fun e w' => e = .returned (.bool true) ∧ Only [] w w') :=
  letI : Env := (env (HRtv3 port))
  lawT (HRtv3 port) (spTwo_ok (spM_ok (allCons (HRtm3_4_ok port hp0 hp1 hc) (allCons (HRtm3_3_ok port hp0 hp1 hc) allNil))) (spTwo_ok (spSum_ok sumsOK (fun e h => by cases h)) (spKnown_ok knownBody known))) (tabG_ok (allECons (HRte3_0_ok port hp0 hp1 hc) (allECons (HRte3_1_ok port hp0 hp1 hc) (allECons (HRte3_2_ok port hp0 hp1 hc) (allECons (HRte3_3_ok port hp0 hp1 hc) (allECons (HRte3_4_ok port hp0 hp1 hc) allENil)))))) refZ_true_says (PW.cons (.opq 0 rfl (fun b h => by cases h)) (PW.cons (VR.of_flat 6 _ rfl) (PW.nil _))) w
theorem hostRefused_true (w : World) (port : Int) (hp0 : -9223372036854775808 ≤ port) (hp1 : port ≤ 9223372036854775807) : Calls Tryz.prog 4 #[.int .i64 port, .bool true] w (fun e w' => e = .returned (.bool true) ∧ Only [] w w') := by
  by_cases h1 : port < 1
  ·
    exact refL_true w port hp0 hp1 ⟨h1, trivial⟩
  ·
    by_cases h2 : port > 65535
    ·
      exact refH_true w port hp0 hp1 ⟨h1, h2, trivial⟩
    ·
      by_cases h3 : port ≥ 0
      ·
        by_cases h4 : port ≤ 65535
        ·
          by_cases h5 : port = 0
          ·
            exfalso; omega
          ·
            by_cases h6 : (sumVal true [10, 0, 0, 1, 10, 0, 0, 2, 0, 17, 0, 9, 0, 99, (((port % 18446744073709551616) / 256) % 256), ((port % 18446744073709551616) % 256), 0, 9, 0, 0, 120]) = 0
            ·
              by_cases h7 : port = (((((port % 18446744073709551616) / 256) % 256) * 256) + ((port % 18446744073709551616) % 256))
              ·
                exact refZ_true w port hp0 hp1 ⟨h1, h2, h3, h4, h5, h6, h7, trivial⟩
              ·
                exfalso; omega
            ·
              by_cases h7 : port = (((((port % 18446744073709551616) / 256) % 256) * 256) + ((port % 18446744073709551616) % 256))
              ·
                exact refN_true w port hp0 hp1 ⟨h1, h2, h3, h4, h5, h6, h7, trivial⟩
              ·
                exfalso; omega
        ·
          exfalso; omega
      ·
        exfalso; omega

theorem refL_false (w : World) (port : Int) (hp0 : -9223372036854775808 ≤ port) (hp1 : port ≤ 9223372036854775807) (hc : HRfK0 port) : Calls Tryz.prog 4 #[.int .i64 port, .bool false] w (fun e w' => e = .returned (.bool true) ∧ Only [] w w') :=
  letI : Env := (env (HRfv0 port))
  lawT (HRfv0 port) (spTwo_ok (spSum_ok sumsOK (fun e h => by cases h)) (spKnown_ok knownBody known)) (tabG_ok (allECons (HRfe0_0_ok port hp0 hp1 hc) allENil)) refL_false_says (PW.cons (.opq 0 rfl (fun b h => by cases h)) (PW.cons (VR.of_flat 6 _ rfl) (PW.nil _))) w
theorem refH_false (w : World) (port : Int) (hp0 : -9223372036854775808 ≤ port) (hp1 : port ≤ 9223372036854775807) (hc : HRfK1 port) : Calls Tryz.prog 4 #[.int .i64 port, .bool false] w (fun e w' => e = .returned (.bool true) ∧ Only [] w w') :=
  letI : Env := (env (HRfv1 port))
  lawT (HRfv1 port) (spTwo_ok (spSum_ok sumsOK (fun e h => by cases h)) (spKnown_ok knownBody known)) (tabG_ok (allECons (HRfe1_0_ok port hp0 hp1 hc) (allECons (HRfe1_1_ok port hp0 hp1 hc) allENil))) refH_false_says (PW.cons (.opq 0 rfl (fun b h => by cases h)) (PW.cons (VR.of_flat 6 _ rfl) (PW.nil _))) w
theorem HRfm2_0_ok (port : Int) (hp0 : -9223372036854775808 ≤ port) (hp1 : port ≤ 9223372036854775807) (hc : HRfK2 port) : @MemoOK (env (HRfv2 port)) Tryz.prog HRfm2_0 := letI : Env := (env (HRfv2 port)); memo (spTwo_ok (spSum_ok sumsOK (allPCons (HRfp2_3_ok port hp0 hp1 hc) allPNil)) (spKnown_ok knownBody known)) (tabG_ok (allECons (HRfe2_13_ok port hp0 hp1 hc) (allECons (HRfe2_14_ok port hp0 hp1 hc) (allECons (HRfe2_15_ok port hp0 hp1 hc) (allECons (HRfe2_16_ok port hp0 hp1 hc) (allECons (HRfe2_17_ok port hp0 hp1 hc) (allECons (HRfe2_18_ok port hp0 hp1 hc) (allECons (HRfe2_31_ok port hp0 hp1 hc) (allECons (HRfe2_32_ok port hp0 hp1 hc) (allECons (HRfe2_33_ok port hp0 hp1 hc) (allECons (HRfe2_34_ok port hp0 hp1 hc) (allECons (HRfe2_35_ok port hp0 hp1 hc) (allECons (HRfe2_36_ok port hp0 hp1 hc) (allECons (HRfe2_37_ok port hp0 hp1 hc) allENil)))))))))))))) HRfm2_0_chk
theorem HRfm2_1_ok (port : Int) (hp0 : -9223372036854775808 ≤ port) (hp1 : port ≤ 9223372036854775807) (hc : HRfK2 port) : @MemoOK (env (HRfv2 port)) Tryz.prog HRfm2_1 := letI : Env := (env (HRfv2 port)); memo (spTwo_ok (spSum_ok sumsOK (allPCons (HRfp2_2_ok port hp0 hp1 hc) allPNil)) (spKnown_ok knownBody known)) (tabG_ok (allECons (HRfe2_27_ok port hp0 hp1 hc) (allECons (HRfe2_28_ok port hp0 hp1 hc) (allECons (HRfe2_29_ok port hp0 hp1 hc) (allECons (HRfe2_30_ok port hp0 hp1 hc) allENil))))) HRfm2_1_chk
theorem HRfm2_2_ok (port : Int) (hp0 : -9223372036854775808 ≤ port) (hp1 : port ≤ 9223372036854775807) (hc : HRfK2 port) : @MemoOK (env (HRfv2 port)) Tryz.prog HRfm2_2 := letI : Env := (env (HRfv2 port)); memo (spTwo_ok (spM_ok (allCons (HRfm2_1_ok port hp0 hp1 hc) allNil)) (spTwo_ok (spSum_ok sumsOK (allPCons (HRfp2_1_ok port hp0 hp1 hc) allPNil)) (spKnown_ok knownBody known))) (tabG_ok (allECons (HRfe2_13_ok port hp0 hp1 hc) (allECons (HRfe2_14_ok port hp0 hp1 hc) (allECons (HRfe2_15_ok port hp0 hp1 hc) (allECons (HRfe2_16_ok port hp0 hp1 hc) (allECons (HRfe2_17_ok port hp0 hp1 hc) (allECons (HRfe2_18_ok port hp0 hp1 hc) (allECons (HRfe2_19_ok port hp0 hp1 hc) (allECons (HRfe2_20_ok port hp0 hp1 hc) (allECons (HRfe2_21_ok port hp0 hp1 hc) (allECons (HRfe2_22_ok port hp0 hp1 hc) (allECons (HRfe2_23_ok port hp0 hp1 hc) (allECons (HRfe2_24_ok port hp0 hp1 hc) (allECons (HRfe2_25_ok port hp0 hp1 hc) (allECons (HRfe2_26_ok port hp0 hp1 hc) allENil))))))))))))))) HRfm2_2_chk
theorem HRfm2_3_ok (port : Int) (hp0 : -9223372036854775808 ≤ port) (hp1 : port ≤ 9223372036854775807) (hc : HRfK2 port) : @MemoOK (env (HRfv2 port)) Tryz.prog HRfm2_3 := letI : Env := (env (HRfv2 port)); memo (spTwo_ok (spM_ok (allCons (HRfm2_2_ok port hp0 hp1 hc) (allCons (HRfm2_0_ok port hp0 hp1 hc) allNil))) (spTwo_ok (spSum_ok sumsOK (fun e h => by cases h)) (spKnown_ok knownBody known))) noTab_ok HRfm2_3_chk
theorem HRfm2_4_ok (port : Int) (hp0 : -9223372036854775808 ≤ port) (hp1 : port ≤ 9223372036854775807) (hc : HRfK2 port) : @MemoOK (env (HRfv2 port)) Tryz.prog HRfm2_4 := letI : Env := (env (HRfv2 port)); memo (spTwo_ok (spSum_ok sumsOK (allPCons (HRfp2_0_ok port hp0 hp1 hc) allPNil)) (spKnown_ok knownBody known)) (tabG_ok (allECons (HRfe2_2_ok port hp0 hp1 hc) (allECons (HRfe2_3_ok port hp0 hp1 hc) (allECons (HRfe2_4_ok port hp0 hp1 hc) (allECons (HRfe2_5_ok port hp0 hp1 hc) (allECons (HRfe2_6_ok port hp0 hp1 hc) (allECons (HRfe2_7_ok port hp0 hp1 hc) (allECons (HRfe2_8_ok port hp0 hp1 hc) (allECons (HRfe2_9_ok port hp0 hp1 hc) (allECons (HRfe2_10_ok port hp0 hp1 hc) (allECons (HRfe2_11_ok port hp0 hp1 hc) (allECons (HRfe2_12_ok port hp0 hp1 hc) allENil)))))))))))) HRfm2_4_chk
theorem refN_false (w : World) (port : Int) (hp0 : -9223372036854775808 ≤ port) (hp1 : port ≤ 9223372036854775807) (hc : HRfK2 port) : Calls Tryz.prog 4 #[.int .i64 port, .bool false] w (fun e w' => e = .returned (.bool true) ∧ Only [] w w') :=
  letI : Env := (env (HRfv2 port))
  lawT (HRfv2 port) (spTwo_ok (spM_ok (allCons (HRfm2_4_ok port hp0 hp1 hc) (allCons (HRfm2_3_ok port hp0 hp1 hc) allNil))) (spTwo_ok (spSum_ok sumsOK (fun e h => by cases h)) (spKnown_ok knownBody known))) (tabG_ok (allECons (HRfe2_0_ok port hp0 hp1 hc) (allECons (HRfe2_1_ok port hp0 hp1 hc) allENil))) refN_false_says (PW.cons (.opq 0 rfl (fun b h => by cases h)) (PW.cons (VR.of_flat 6 _ rfl) (PW.nil _))) w
theorem HRfm3_0_ok (port : Int) (hp0 : -9223372036854775808 ≤ port) (hp1 : port ≤ 9223372036854775807) (hc : HRfK3 port) : @MemoOK (env (HRfv3 port)) Tryz.prog HRfm3_0 := letI : Env := (env (HRfv3 port)); memo (spTwo_ok (spSum_ok sumsOK (allPCons (HRfp3_3_ok port hp0 hp1 hc) allPNil)) (spKnown_ok knownBody known)) (tabG_ok (allECons (HRfe3_9_ok port hp0 hp1 hc) (allECons (HRfe3_10_ok port hp0 hp1 hc) (allECons (HRfe3_11_ok port hp0 hp1 hc) (allECons (HRfe3_12_ok port hp0 hp1 hc) (allECons (HRfe3_13_ok port hp0 hp1 hc) (allECons (HRfe3_14_ok port hp0 hp1 hc) (allECons (HRfe3_20_ok port hp0 hp1 hc) (allECons (HRfe3_21_ok port hp0 hp1 hc) (allECons (HRfe3_22_ok port hp0 hp1 hc) (allECons (HRfe3_23_ok port hp0 hp1 hc) (allECons (HRfe3_24_ok port hp0 hp1 hc) (allECons (HRfe3_25_ok port hp0 hp1 hc) (allECons (HRfe3_26_ok port hp0 hp1 hc) allENil)))))))))))))) HRfm3_0_chk
theorem HRfm3_1_ok (port : Int) (hp0 : -9223372036854775808 ≤ port) (hp1 : port ≤ 9223372036854775807) (hc : HRfK3 port) : @MemoOK (env (HRfv3 port)) Tryz.prog HRfm3_1 := letI : Env := (env (HRfv3 port)); memo (spTwo_ok (spSum_ok sumsOK (allPCons (HRfp3_2_ok port hp0 hp1 hc) allPNil)) (spKnown_ok knownBody known)) (tabG_ok (allECons (HRfe3_16_ok port hp0 hp1 hc) (allECons (HRfe3_17_ok port hp0 hp1 hc) (allECons (HRfe3_18_ok port hp0 hp1 hc) (allECons (HRfe3_19_ok port hp0 hp1 hc) allENil))))) HRfm3_1_chk
theorem HRfm3_2_ok (port : Int) (hp0 : -9223372036854775808 ≤ port) (hp1 : port ≤ 9223372036854775807) (hc : HRfK3 port) : @MemoOK (env (HRfv3 port)) Tryz.prog HRfm3_2 := letI : Env := (env (HRfv3 port)); memo (spTwo_ok (spM_ok (allCons (HRfm3_1_ok port hp0 hp1 hc) allNil)) (spTwo_ok (spSum_ok sumsOK (allPCons (HRfp3_1_ok port hp0 hp1 hc) allPNil)) (spKnown_ok knownBody known))) (tabG_ok (allECons (HRfe3_9_ok port hp0 hp1 hc) (allECons (HRfe3_10_ok port hp0 hp1 hc) (allECons (HRfe3_11_ok port hp0 hp1 hc) (allECons (HRfe3_12_ok port hp0 hp1 hc) (allECons (HRfe3_13_ok port hp0 hp1 hc) (allECons (HRfe3_14_ok port hp0 hp1 hc) (allECons (HRfe3_15_ok port hp0 hp1 hc) allENil)))))))) HRfm3_2_chk
theorem HRfm3_3_ok (port : Int) (hp0 : -9223372036854775808 ≤ port) (hp1 : port ≤ 9223372036854775807) (hc : HRfK3 port) : @MemoOK (env (HRfv3 port)) Tryz.prog HRfm3_3 := letI : Env := (env (HRfv3 port)); memo (spTwo_ok (spM_ok (allCons (HRfm3_2_ok port hp0 hp1 hc) (allCons (HRfm3_0_ok port hp0 hp1 hc) allNil))) (spTwo_ok (spSum_ok sumsOK (fun e h => by cases h)) (spKnown_ok knownBody known))) noTab_ok HRfm3_3_chk
theorem HRfm3_4_ok (port : Int) (hp0 : -9223372036854775808 ≤ port) (hp1 : port ≤ 9223372036854775807) (hc : HRfK3 port) : @MemoOK (env (HRfv3 port)) Tryz.prog HRfm3_4 := letI : Env := (env (HRfv3 port)); memo (spTwo_ok (spSum_ok sumsOK (allPCons (HRfp3_0_ok port hp0 hp1 hc) allPNil)) (spKnown_ok knownBody known)) (tabG_ok (allECons (HRfe3_2_ok port hp0 hp1 hc) (allECons (HRfe3_3_ok port hp0 hp1 hc) (allECons (HRfe3_4_ok port hp0 hp1 hc) (allECons (HRfe3_5_ok port hp0 hp1 hc) (allECons (HRfe3_6_ok port hp0 hp1 hc) (allECons (HRfe3_7_ok port hp0 hp1 hc) (allECons (HRfe3_8_ok port hp0 hp1 hc) allENil)))))))) HRfm3_4_chk
theorem refZ_false (w : World) (port : Int) (hp0 : -9223372036854775808 ≤ port) (hp1 : port ≤ 9223372036854775807) (hc : HRfK3 port) : Calls Tryz.prog 4 #[.int .i64 port, .bool false] w (fun e w' => e = .returned (.bool true) ∧ Only [] w w') :=
  letI : Env := (env (HRfv3 port))
  lawT (HRfv3 port) (spTwo_ok (spM_ok (allCons (HRfm3_4_ok port hp0 hp1 hc) (allCons (HRfm3_3_ok port hp0 hp1 hc) allNil))) (spTwo_ok (spSum_ok sumsOK (fun e h => by cases h)) (spKnown_ok knownBody known))) (tabG_ok (allECons (HRfe3_0_ok port hp0 hp1 hc) (allECons (HRfe3_1_ok port hp0 hp1 hc) allENil))) refZ_false_says (PW.cons (.opq 0 rfl (fun b h => by cases h)) (PW.cons (VR.of_flat 6 _ rfl) (PW.nil _))) w
theorem hostRefused_false (w : World) (port : Int) (hp0 : -9223372036854775808 ≤ port) (hp1 : port ≤ 9223372036854775807) : Calls Tryz.prog 4 #[.int .i64 port, .bool false] w (fun e w' => e = .returned (.bool true) ∧ Only [] w w') := by
  by_cases h1 : port < 1
  ·
    exact refL_false w port hp0 hp1 ⟨h1, trivial⟩
  ·
    by_cases h2 : port > 65535
    ·
      exact refH_false w port hp0 hp1 ⟨h1, h2, trivial⟩
    ·
      by_cases h3 : port ≥ 0
      ·
        by_cases h4 : port ≤ 65535
        ·
          by_cases h5 : (sumVal true [10, 0, 0, 1, 10, 0, 0, 2, 0, 17, 0, 9, 0, 99, (((port % 18446744073709551616) / 256) % 256), ((port % 18446744073709551616) % 256), 0, 9, 0, 0, 120]) = 0
          ·
            exact refZ_false w port hp0 hp1 ⟨h1, h2, h3, h4, h5, trivial⟩
          ·
            exact refN_false w port hp0 hp1 ⟨h1, h2, h3, h4, h5, trivial⟩
        ·
          exfalso; omega
      ·
        exfalso; omega

theorem hostRefused (w : World) (port : Int) (b : Bool) (hp0 : -9223372036854775808 ≤ port) (hp1 : port ≤ 9223372036854775807) : Calls Tryz.prog 4 #[.int .i64 port, .bool b] w (fun e w' => e = .returned (.bool true) ∧ Only [] w w') := by
  cases b
  · exact hostRefused_false w port hp0 hp1
  · exact hostRefused_true w port hp0 hp1
end Go.Proofs.YtjehddcgbgfhdaaGreat.ev
