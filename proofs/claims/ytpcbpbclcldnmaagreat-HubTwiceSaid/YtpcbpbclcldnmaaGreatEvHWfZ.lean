/-
  Put together. Conditions: none.
-/
import Derived.Test.YtpcbpbclcldnmaaGreatEvHWfCa
import Derived.Test.YtpcbpbclcldnmaaGreatEvHWfEa
namespace Go.Proofs.YtpcbpbclcldnmaaGreat.ev
set_option maxRecDepth 1000000
set_option linter.unusedVariables false
set_option linter.unusedSimpArgs false
theorem twL_false (w : World) (port : Int) (hp0 : -9223372036854775808 ≤ port) (hp1 : port ≤ 9223372036854775807) (hc : HWfK0 port) : Calls Tryz.prog 4 #[.int .i64 port, .bool false] w (fun e w' => e = .returned (.bool true) ∧ Only [] w w') :=
  letI : Env := (env (HWfv0 port))
  lawT (HWfv0 port) (spKnown_ok knownBody known) (tabG_ok (allECons (HWfe0_0_ok port hp0 hp1 hc) allENil)) twL_false_says (PW.cons (.opq 0 rfl (fun b h => by cases h)) (PW.cons (VR.of_flat 6 _ rfl) (PW.nil _))) w
theorem twH_false (w : World) (port : Int) (hp0 : -9223372036854775808 ≤ port) (hp1 : port ≤ 9223372036854775807) (hc : HWfK1 port) : Calls Tryz.prog 4 #[.int .i64 port, .bool false] w (fun e w' => e = .returned (.bool true) ∧ Only [] w w') :=
  letI : Env := (env (HWfv1 port))
  lawT (HWfv1 port) (spKnown_ok knownBody known) (tabG_ok (allECons (HWfe1_0_ok port hp0 hp1 hc) (allECons (HWfe1_1_ok port hp0 hp1 hc) allENil))) twH_false_says (PW.cons (.opq 0 rfl (fun b h => by cases h)) (PW.cons (VR.of_flat 6 _ rfl) (PW.nil _))) w
theorem twN_false (w : World) (port : Int) (hp0 : -9223372036854775808 ≤ port) (hp1 : port ≤ 9223372036854775807) (hc : HWfK2 port) : Calls Tryz.prog 4 #[.int .i64 port, .bool false] w (fun e w' => e = .returned (.bool true) ∧ Only [] w w') :=
  letI : Env := (env (HWfv2 port))
  lawT (HWfv2 port) (spKnown_ok knownBody known) (tabG_ok (allECons (HWfe2_0_ok port hp0 hp1 hc) (allECons (HWfe2_1_ok port hp0 hp1 hc) allENil))) twN_false_says (PW.cons (.opq 0 rfl (fun b h => by cases h)) (PW.cons (VR.of_flat 6 _ rfl) (PW.nil _))) w
theorem hubTwice_false (w : World) (port : Int) (hp0 : -9223372036854775808 ≤ port) (hp1 : port ≤ 9223372036854775807) : Calls Tryz.prog 4 #[.int .i64 port, .bool false] w (fun e w' => e = .returned (.bool true) ∧ Only [] w w') := by
  by_cases h1 : port < 1
  ·
    exact twL_false w port hp0 hp1 ⟨h1, trivial⟩
  ·
    by_cases h2 : port > 65535
    ·
      exact twH_false w port hp0 hp1 ⟨h1, h2, trivial⟩
    ·
      exact twN_false w port hp0 hp1 ⟨h1, h2, trivial⟩
end Go.Proofs.YtpcbpbclcldnmaaGreat.ev
