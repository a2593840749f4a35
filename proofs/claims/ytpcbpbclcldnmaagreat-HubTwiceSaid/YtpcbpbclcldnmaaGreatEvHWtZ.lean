/-
  Put together. Conditions: none.
-/
import Derived.Test.YtpcbpbclcldnmaaGreatEvHWtCa
import Derived.Test.YtpcbpbclcldnmaaGreatEvHWtEa
namespace Go.Proofs.YtpcbpbclcldnmaaGreat.ev
set_option maxRecDepth 1000000
set_option linter.unusedVariables false
set_option linter.unusedSimpArgs false
theorem twL_true (w : World) (port : Int) (hp0 : -9223372036854775808 ≤ port) (hp1 : port ≤ 9223372036854775807) (hc : HWtK0 port) : Calls Tryz.prog 4 #[.int .i64 port, .bool true] w (fun e w' => e = .returned (.bool true) ∧ Only [] w w') :=
  letI : Env := (env (HWtv0 port))
  lawT (HWtv0 port) (spTwo_ok (spDf_ok (spKnown_ok knownBody known) (tabG_ok (allECons (HWte0_0_ok port hp0 hp1 hc) allENil)) mixed noCount' 300 dropBody) (spKnown_ok knownBody known)) (tabG_ok (allECons (HWte0_0_ok port hp0 hp1 hc) allENil)) twL_true_says (PW.cons (.opq 0 rfl (fun b h => by cases h)) (PW.cons (VR.of_flat 6 _ rfl) (PW.nil _))) w
theorem twH_true (w : World) (port : Int) (hp0 : -9223372036854775808 ≤ port) (hp1 : port ≤ 9223372036854775807) (hc : HWtK1 port) : Calls Tryz.prog 4 #[.int .i64 port, .bool true] w (fun e w' => e = .returned (.bool true) ∧ Only [] w w') :=
  letI : Env := (env (HWtv1 port))
  lawT (HWtv1 port) (spTwo_ok (spDf_ok (spKnown_ok knownBody known) (tabG_ok (allECons (HWte1_0_ok port hp0 hp1 hc) (allECons (HWte1_1_ok port hp0 hp1 hc) allENil))) mixed noCount' 300 dropBody) (spKnown_ok knownBody known)) (tabG_ok (allECons (HWte1_0_ok port hp0 hp1 hc) (allECons (HWte1_1_ok port hp0 hp1 hc) allENil))) twH_true_says (PW.cons (.opq 0 rfl (fun b h => by cases h)) (PW.cons (VR.of_flat 6 _ rfl) (PW.nil _))) w
theorem twN_true (w : World) (port : Int) (hp0 : -9223372036854775808 ≤ port) (hp1 : port ≤ 9223372036854775807) (hc : HWtK2 port) : Calls Tryz.prog 4 #[.int .i64 port, .bool true] w (fun e w' => e = .returned (.bool true) ∧ Only [] w w') :=
  letI : Env := (env (HWtv2 port))
  lawT (HWtv2 port) (spTwo_ok (spDf_ok (spKnown_ok knownBody known) (tabG_ok (allECons (HWte2_0_ok port hp0 hp1 hc) (allECons (HWte2_1_ok port hp0 hp1 hc) allENil))) mixed noCount' 300 dropBody) (spKnown_ok knownBody known)) (tabG_ok (allECons (HWte2_0_ok port hp0 hp1 hc) (allECons (HWte2_1_ok port hp0 hp1 hc) allENil))) twN_true_says (PW.cons (.opq 0 rfl (fun b h => by cases h)) (PW.cons (VR.of_flat 6 _ rfl) (PW.nil _))) w
theorem hubTwice_true (w : World) (port : Int) (hp0 : -9223372036854775808 ≤ port) (hp1 : port ≤ 9223372036854775807) : Calls Tryz.prog 4 #[.int .i64 port, .bool true] w (fun e w' => e = .returned (.bool true) ∧ Only [] w w') := by
  by_cases h1 : port < 1
  ·
    exact twL_true w port hp0 hp1 ⟨h1, trivial⟩
  ·
    by_cases h2 : port > 65535
    ·
      exact twH_true w port hp0 hp1 ⟨h1, h2, trivial⟩
    ·
      exact twN_true w port hp0 hp1 ⟨h1, h2, trivial⟩
end Go.Proofs.YtpcbpbclcldnmaaGreat.ev
