/-
  EtherEncodes, by a run of each path over rows of bytes that are not looked into. Conditions: none.
-/
import Derived.Test.YtiihhngddmboaaaEvRl
import Derived.Test.YtiihhngddmboaaaEvP4
import Derived.Test.YtiihhngddmboaaaHlp4
import Derived.Test.YtiihhngddmboaaaSpo4
import Derived.Test.YtiihhngddmboaaaEvV
import Derived.Test.YtiihhngddmboaaaEvBd
import Derived.Test.YtiihhngddmboaaaOrm
import Derived.Test.YtiihhngddmboaaaEvV
import Derived.Test.YtiihhngddmboaaaEvR4ea
import Derived.Test.YtiihhngddmboaaaEvR4ef
import Derived.KernelRfl
import Derived.DeepKeys
namespace Go.Proofs.Ytiihhngddmboaaa.ev
set_option maxRecDepth 1000000
set_option linter.unusedVariables false
set_option linter.unusedSimpArgs false
open Go.ChangeShapes Go.WideShapes Go.ChangeAt Go.RowKit Go.IntWalk Go.Lib
abbrev eeNilBadG : List Ent := []
theorem eeNilBadG_ok (R : Nat → Int) (hR : ∀ j, 0 ≤ R j ∧ R j ≤ 255) (t0 t1 t2 t3 t4 t5 f0 f1 f2 f3 f4 f5 kd : Int) (hb : eeNilBadB R t0 t1 t2 t3 t4 t5 f0 f1 f2 f3 f4 f5 kd) : ∀ e ∈ eeNilBadG, @EntOK (eeNilBadV R hR t0 t1 t2 t3 t4 t5 f0 f1 f2 f3 f4 f5 kd) Try.prog e := by
  letI : Env := eeNilBadV R hR t0 t1 t2 t3 t4 t5 f0 f1 f2 f3 f4 f5 kd
  exact allENil
abbrev eeNilBad0L : List Ent := eeNilBads0 :: eeNilBadG
set_option maxHeartbeats 4000000 in
theorem eeNilBad0 (w : World) (R : Nat → Int) (hR : ∀ j, 0 ≤ R j ∧ R j ≤ 255) (t0 t1 t2 t3 t4 t5 f0 f1 f2 f3 f4 f5 kd : Int) (ht0 : 0 ≤ t0 ∧ t0 ≤ 255) (ht1 : 0 ≤ t1 ∧ t1 ≤ 255) (ht2 : 0 ≤ t2 ∧ t2 ≤ 255) (ht3 : 0 ≤ t3 ∧ t3 ≤ 255) (ht4 : 0 ≤ t4 ∧ t4 ≤ 255) (ht5 : 0 ≤ t5 ∧ t5 ≤ 255) (hf0 : 0 ≤ f0 ∧ f0 ≤ 255) (hf1 : 0 ≤ f1 ∧ f1 ≤ 255) (hf2 : 0 ≤ f2 ∧ f2 ≤ 255) (hf3 : 0 ≤ f3 ∧ f3 ≤ 255) (hf4 : 0 ≤ f4 ∧ f4 ≤ 255) (hf5 : 0 ≤ f5 ∧ f5 ≤ 255) (hkd : (-9223372036854775808) ≤ kd ∧ kd ≤ 9223372036854775807) (hgk : kd < 1536 ∨ 65535 < kd) (k0 : kd < 1536) : Calls Try.prog 3 #[.agg #[.int .u8 t0, .int .u8 t1, .int .u8 t2, .int .u8 t3, .int .u8 t4, .int .u8 t5, .int .u8 f0, .int .u8 f1, .int .u8 f2, .int .u8 f3, .int .u8 f4, .int .u8 f5, .int .i64 kd, .slice none 0 0]] w (fun e w' => e = .returned (.bool true) ∧ Only [] w w') := by
  letI : Env := (eeNilBadV R hR t0 t1 t2 t3 t4 t5 f0 f1 f2 f3 f4 f5 kd)
  have hb : eeNilBadB R t0 t1 t2 t3 t4 t5 f0 f1 f2 f3 f4 f5 kd := ⟨hgk, ht0, ht1, ht2, ht3, ht4, ht5, hf0, hf1, hf2, hf3, hf4, hf5, hkd⟩
  have hents : ∀ e ∈ (eeNilBad0L : List Ent), EntOK Try.prog e := (ac (eeNilBads0_ok R hR t0 t1 t2 t3 t4 t5 f0 f1 f2 f3 f4 f5 kd hb k0) (eeNilBadG_ok R hR t0 t1 t2 t3 t4 t5 f0 f1 f2 f3 f4 f5 kd hb))
  have hsp : SpOK Try.prog (spKnown 15) := (spKnown_ok knownBody known)
  refine lawR (tab := tabG Try.prog eeNilBad0L) (sp := (spKnown 15)) hsp (tabG_ok hents) (f := 300) (args := [.agg #[.chan (some 0), .chan (some 1), .chan (some 2), .chan (some 3), .chan (some 4), .chan (some 5), .chan (some 6), .chan (some 7), .chan (some 8), .chan (some 9), .chan (some 10), .chan (some 11), .chan (some 12), .slice none 0 0]]) (args' := [.agg #[.int .u8 t0, .int .u8 t1, .int .u8 t2, .int .u8 t3, .int .u8 t4, .int .u8 t5, .int .u8 f0, .int .u8 f1, .int .u8 f2, .int .u8 f3, .int .u8 f4, .int .u8 f5, .int .i64 kd, .slice none 0 0]]) (c0 := 0) (h0 := .lf) (β0 := fun _ => none) (w := w) (by kernel_rfl) (Sim.nothing Try.prog w.heap.size w) (fun i hi => ?_) ?_
  · rfl
  · exact (PW.cons (PW.agg (PW.cons (.opq 0 rfl (fun b h => by cases h)) (PW.cons (.opq 1 rfl (fun b h => by cases h)) (PW.cons (.opq 2 rfl (fun b h => by cases h)) (PW.cons (.opq 3 rfl (fun b h => by cases h)) (PW.cons (.opq 4 rfl (fun b h => by cases h)) (PW.cons (.opq 5 rfl (fun b h => by cases h)) (PW.cons (.opq 6 rfl (fun b h => by cases h)) (PW.cons (.opq 7 rfl (fun b h => by cases h)) (PW.cons (.opq 8 rfl (fun b h => by cases h)) (PW.cons (.opq 9 rfl (fun b h => by cases h)) (PW.cons (.opq 10 rfl (fun b h => by cases h)) (PW.cons (.opq 11 rfl (fun b h => by cases h)) (PW.cons (.opq 12 rfl (fun b h => by cases h)) (PW.cons (.nils 0 0) (PW.nil _)))))))))))))))) (PW.nil _))
abbrev eeNilBad1L : List Ent := eeNilBads1 :: eeNilBads2 :: eeNilBadG
set_option maxHeartbeats 4000000 in
theorem eeNilBad1 (w : World) (R : Nat → Int) (hR : ∀ j, 0 ≤ R j ∧ R j ≤ 255) (t0 t1 t2 t3 t4 t5 f0 f1 f2 f3 f4 f5 kd : Int) (ht0 : 0 ≤ t0 ∧ t0 ≤ 255) (ht1 : 0 ≤ t1 ∧ t1 ≤ 255) (ht2 : 0 ≤ t2 ∧ t2 ≤ 255) (ht3 : 0 ≤ t3 ∧ t3 ≤ 255) (ht4 : 0 ≤ t4 ∧ t4 ≤ 255) (ht5 : 0 ≤ t5 ∧ t5 ≤ 255) (hf0 : 0 ≤ f0 ∧ f0 ≤ 255) (hf1 : 0 ≤ f1 ∧ f1 ≤ 255) (hf2 : 0 ≤ f2 ∧ f2 ≤ 255) (hf3 : 0 ≤ f3 ∧ f3 ≤ 255) (hf4 : 0 ≤ f4 ∧ f4 ≤ 255) (hf5 : 0 ≤ f5 ∧ f5 ≤ 255) (hkd : (-9223372036854775808) ≤ kd ∧ kd ≤ 9223372036854775807) (hgk : kd < 1536 ∨ 65535 < kd) (k0 : ¬ (kd < 1536)) (k1 : kd > 65535) : Calls Try.prog 3 #[.agg #[.int .u8 t0, .int .u8 t1, .int .u8 t2, .int .u8 t3, .int .u8 t4, .int .u8 t5, .int .u8 f0, .int .u8 f1, .int .u8 f2, .int .u8 f3, .int .u8 f4, .int .u8 f5, .int .i64 kd, .slice none 0 0]] w (fun e w' => e = .returned (.bool true) ∧ Only [] w w') := by
  letI : Env := (eeNilBadV R hR t0 t1 t2 t3 t4 t5 f0 f1 f2 f3 f4 f5 kd)
  have hb : eeNilBadB R t0 t1 t2 t3 t4 t5 f0 f1 f2 f3 f4 f5 kd := ⟨hgk, ht0, ht1, ht2, ht3, ht4, ht5, hf0, hf1, hf2, hf3, hf4, hf5, hkd⟩
  have hents : ∀ e ∈ (eeNilBad1L : List Ent), EntOK Try.prog e := (ac (eeNilBads1_ok R hR t0 t1 t2 t3 t4 t5 f0 f1 f2 f3 f4 f5 kd hb k0) (ac (eeNilBads2_ok R hR t0 t1 t2 t3 t4 t5 f0 f1 f2 f3 f4 f5 kd hb k1) (eeNilBadG_ok R hR t0 t1 t2 t3 t4 t5 f0 f1 f2 f3 f4 f5 kd hb)))
  have hsp : SpOK Try.prog (spKnown 15) := (spKnown_ok knownBody known)
  refine lawR (tab := tabG Try.prog eeNilBad1L) (sp := (spKnown 15)) hsp (tabG_ok hents) (f := 300) (args := [.agg #[.chan (some 0), .chan (some 1), .chan (some 2), .chan (some 3), .chan (some 4), .chan (some 5), .chan (some 6), .chan (some 7), .chan (some 8), .chan (some 9), .chan (some 10), .chan (some 11), .chan (some 12), .slice none 0 0]]) (args' := [.agg #[.int .u8 t0, .int .u8 t1, .int .u8 t2, .int .u8 t3, .int .u8 t4, .int .u8 t5, .int .u8 f0, .int .u8 f1, .int .u8 f2, .int .u8 f3, .int .u8 f4, .int .u8 f5, .int .i64 kd, .slice none 0 0]]) (c0 := 0) (h0 := .lf) (β0 := fun _ => none) (w := w) (by kernel_rfl) (Sim.nothing Try.prog w.heap.size w) (fun i hi => ?_) ?_
  · rfl
  · exact (PW.cons (PW.agg (PW.cons (.opq 0 rfl (fun b h => by cases h)) (PW.cons (.opq 1 rfl (fun b h => by cases h)) (PW.cons (.opq 2 rfl (fun b h => by cases h)) (PW.cons (.opq 3 rfl (fun b h => by cases h)) (PW.cons (.opq 4 rfl (fun b h => by cases h)) (PW.cons (.opq 5 rfl (fun b h => by cases h)) (PW.cons (.opq 6 rfl (fun b h => by cases h)) (PW.cons (.opq 7 rfl (fun b h => by cases h)) (PW.cons (.opq 8 rfl (fun b h => by cases h)) (PW.cons (.opq 9 rfl (fun b h => by cases h)) (PW.cons (.opq 10 rfl (fun b h => by cases h)) (PW.cons (.opq 11 rfl (fun b h => by cases h)) (PW.cons (.opq 12 rfl (fun b h => by cases h)) (PW.cons (.nils 0 0) (PW.nil _)))))))))))))))) (PW.nil _))
theorem EtherEncodesNilBad (w : World) (R : Nat → Int) (hR : ∀ j, 0 ≤ R j ∧ R j ≤ 255) (t0 t1 t2 t3 t4 t5 f0 f1 f2 f3 f4 f5 kd : Int) (ht0 : 0 ≤ t0 ∧ t0 ≤ 255) (ht1 : 0 ≤ t1 ∧ t1 ≤ 255) (ht2 : 0 ≤ t2 ∧ t2 ≤ 255) (ht3 : 0 ≤ t3 ∧ t3 ≤ 255) (ht4 : 0 ≤ t4 ∧ t4 ≤ 255) (ht5 : 0 ≤ t5 ∧ t5 ≤ 255) (hf0 : 0 ≤ f0 ∧ f0 ≤ 255) (hf1 : 0 ≤ f1 ∧ f1 ≤ 255) (hf2 : 0 ≤ f2 ∧ f2 ≤ 255) (hf3 : 0 ≤ f3 ∧ f3 ≤ 255) (hf4 : 0 ≤ f4 ∧ f4 ≤ 255) (hf5 : 0 ≤ f5 ∧ f5 ≤ 255) (hkd : (-9223372036854775808) ≤ kd ∧ kd ≤ 9223372036854775807) (hgk : kd < 1536 ∨ 65535 < kd) : Calls Try.prog 3 #[.agg #[.int .u8 t0, .int .u8 t1, .int .u8 t2, .int .u8 t3, .int .u8 t4, .int .u8 t5, .int .u8 f0, .int .u8 f1, .int .u8 f2, .int .u8 f3, .int .u8 f4, .int .u8 f5, .int .i64 kd, .slice none 0 0]] w (fun e w' => e = .returned (.bool true) ∧ Only [] w w') := by
  by_cases h1 : kd < 1536
  ·
    exact eeNilBad0 w R hR t0 t1 t2 t3 t4 t5 f0 f1 f2 f3 f4 f5 kd ht0 ht1 ht2 ht3 ht4 ht5 hf0 hf1 hf2 hf3 hf4 hf5 hkd hgk h1
  ·
    by_cases h2 : kd > 65535
    ·
      exact eeNilBad1 w R hR t0 t1 t2 t3 t4 t5 f0 f1 f2 f3 f4 f5 kd ht0 ht1 ht2 ht3 ht4 ht5 hf0 hf1 hf2 hf3 hf4 hf5 hkd hgk h1 h2
    ·
      exfalso; omega
abbrev eeEmpV (R : Nat → Int) (hR : ∀ j, 0 ≤ R j ∧ R j ≤ 255) (t0 t1 t2 t3 t4 t5 f0 f1 f2 f3 f4 f5 kd : Int) : Env := envR [.int .u8 t0, .int .u8 t1, .int .u8 t2, .int .u8 t3, .int .u8 t4, .int .u8 t5, .int .u8 f0, .int .u8 f1, .int .u8 f2, .int .u8 f3, .int .u8 f4, .int .u8 f5, .int .i64 kd, .int .u64 kd, .int .u64 (kd / 256), .int .u8 (kd / 256), .int .u8 (kd % 256), .int .i64 (kd / 256)] R hR
abbrev eeEmpB (R : Nat → Int) (t0 t1 t2 t3 t4 t5 f0 f1 f2 f3 f4 f5 kd : Int) : Prop := (1536 ≤ kd ∧ kd ≤ 65535) ∧ (0 ≤ t0 ∧ t0 ≤ 255) ∧ (0 ≤ t1 ∧ t1 ≤ 255) ∧ (0 ≤ t2 ∧ t2 ≤ 255) ∧ (0 ≤ t3 ∧ t3 ≤ 255) ∧ (0 ≤ t4 ∧ t4 ≤ 255) ∧ (0 ≤ t5 ∧ t5 ≤ 255) ∧ (0 ≤ f0 ∧ f0 ≤ 255) ∧ (0 ≤ f1 ∧ f1 ≤ 255) ∧ (0 ≤ f2 ∧ f2 ≤ 255) ∧ (0 ≤ f3 ∧ f3 ≤ 255) ∧ (0 ≤ f4 ∧ f4 ≤ 255) ∧ (0 ≤ f5 ∧ f5 ≤ 255) ∧ ((-9223372036854775808) ≤ kd ∧ kd ≤ 9223372036854775807)
def eeEmps0 : Ent := .conv .u64 (.chan (some 12)) (.chan (some 13))
theorem eeEmps0_ok (R : Nat → Int) (hR : ∀ j, 0 ≤ R j ∧ R j ≤ 255) (t0 t1 t2 t3 t4 t5 f0 f1 f2 f3 f4 f5 kd : Int) (hb : eeEmpB R t0 t1 t2 t3 t4 t5 f0 f1 f2 f3 f4 f5 kd) : @EntOK (eeEmpV R hR t0 t1 t2 t3 t4 t5 f0 f1 f2 f3 f4 f5 kd) Try.prog eeEmps0 := by
  letI : Env := eeEmpV R hR t0 t1 t2 t3 t4 t5 f0 f1 f2 f3 f4 f5 kd
  exact entConvV (k := .u64) (l := .i64) (a := kd) (c := kd) rfl rfl (by rw [IntWalk.u64_in _ (by first | omega | (simp only [sumVal, oct.sumF, oct.F, oct.ws]; omega))])
def eeEmps1 : Ent := .bin .shr (.chan (some 13)) (.int .u64 8) (.chan (some 14))
theorem eeEmps1_ok (R : Nat → Int) (hR : ∀ j, 0 ≤ R j ∧ R j ≤ 255) (t0 t1 t2 t3 t4 t5 f0 f1 f2 f3 f4 f5 kd : Int) (hb : eeEmpB R t0 t1 t2 t3 t4 t5 f0 f1 f2 f3 f4 f5 kd) : @EntOK (eeEmpV R hR t0 t1 t2 t3 t4 t5 f0 f1 f2 f3 f4 f5 kd) Try.prog eeEmps1 := by
  letI : Env := eeEmpV R hR t0 t1 t2 t3 t4 t5 f0 f1 f2 f3 f4 f5 kd
  exact entShrV (k := .u64) (l := .u64) (a := kd) (c := (kd / 256)) (s := 8) rfl rfl rfl (by decide) (by exact fdiv_nat _ 256)
def eeEmps2 : Ent := .conv .u8 (.chan (some 14)) (.chan (some 15))
theorem eeEmps2_ok (R : Nat → Int) (hR : ∀ j, 0 ≤ R j ∧ R j ≤ 255) (t0 t1 t2 t3 t4 t5 f0 f1 f2 f3 f4 f5 kd : Int) (hb : eeEmpB R t0 t1 t2 t3 t4 t5 f0 f1 f2 f3 f4 f5 kd) : @EntOK (eeEmpV R hR t0 t1 t2 t3 t4 t5 f0 f1 f2 f3 f4 f5 kd) Try.prog eeEmps2 := by
  letI : Env := eeEmpV R hR t0 t1 t2 t3 t4 t5 f0 f1 f2 f3 f4 f5 kd
  exact entConvV (k := .u8) (l := .u64) (a := (kd / 256)) (c := (kd / 256)) rfl rfl (by rw [IntWalk.u8_in _ (by first | omega | (simp only [sumVal, oct.sumF, oct.F, oct.ws]; omega))])
def eeEmps3 : Ent := .conv .u8 (.chan (some 13)) (.chan (some 16))
theorem eeEmps3_ok (R : Nat → Int) (hR : ∀ j, 0 ≤ R j ∧ R j ≤ 255) (t0 t1 t2 t3 t4 t5 f0 f1 f2 f3 f4 f5 kd : Int) (hb : eeEmpB R t0 t1 t2 t3 t4 t5 f0 f1 f2 f3 f4 f5 kd) : @EntOK (eeEmpV R hR t0 t1 t2 t3 t4 t5 f0 f1 f2 f3 f4 f5 kd) Try.prog eeEmps3 := by
  letI : Env := eeEmpV R hR t0 t1 t2 t3 t4 t5 f0 f1 f2 f3 f4 f5 kd
  exact entConvV (k := .u8) (l := .u64) (a := kd) (c := (kd % 256)) rfl rfl (by rw [IntKind.wrap_u8])
def eeEmps4 : Ent := .bin .shr (.chan (some 12)) (.int .u64 8) (.chan (some 17))
theorem eeEmps4_ok (R : Nat → Int) (hR : ∀ j, 0 ≤ R j ∧ R j ≤ 255) (t0 t1 t2 t3 t4 t5 f0 f1 f2 f3 f4 f5 kd : Int) (hb : eeEmpB R t0 t1 t2 t3 t4 t5 f0 f1 f2 f3 f4 f5 kd) : @EntOK (eeEmpV R hR t0 t1 t2 t3 t4 t5 f0 f1 f2 f3 f4 f5 kd) Try.prog eeEmps4 := by
  letI : Env := eeEmpV R hR t0 t1 t2 t3 t4 t5 f0 f1 f2 f3 f4 f5 kd
  exact entShrV (k := .i64) (l := .u64) (a := kd) (c := (kd / 256)) (s := 8) rfl rfl rfl (by decide) (by exact fdiv_nat _ 256)
def eeEmps5 : Ent := .conv .u8 (.chan (some 17)) (.chan (some 15))
theorem eeEmps5_ok (R : Nat → Int) (hR : ∀ j, 0 ≤ R j ∧ R j ≤ 255) (t0 t1 t2 t3 t4 t5 f0 f1 f2 f3 f4 f5 kd : Int) (hb : eeEmpB R t0 t1 t2 t3 t4 t5 f0 f1 f2 f3 f4 f5 kd) : @EntOK (eeEmpV R hR t0 t1 t2 t3 t4 t5 f0 f1 f2 f3 f4 f5 kd) Try.prog eeEmps5 := by
  letI : Env := eeEmpV R hR t0 t1 t2 t3 t4 t5 f0 f1 f2 f3 f4 f5 kd
  exact entConvV (k := .u8) (l := .i64) (a := (kd / 256)) (c := (kd / 256)) rfl rfl (by rw [IntWalk.u8_in _ (by first | omega | (simp only [sumVal, oct.sumF, oct.F, oct.ws]; omega))])
def eeEmps6 : Ent := .conv .u8 (.chan (some 12)) (.chan (some 16))
theorem eeEmps6_ok (R : Nat → Int) (hR : ∀ j, 0 ≤ R j ∧ R j ≤ 255) (t0 t1 t2 t3 t4 t5 f0 f1 f2 f3 f4 f5 kd : Int) (hb : eeEmpB R t0 t1 t2 t3 t4 t5 f0 f1 f2 f3 f4 f5 kd) : @EntOK (eeEmpV R hR t0 t1 t2 t3 t4 t5 f0 f1 f2 f3 f4 f5 kd) Try.prog eeEmps6 := by
  letI : Env := eeEmpV R hR t0 t1 t2 t3 t4 t5 f0 f1 f2 f3 f4 f5 kd
  exact entConvV (k := .u8) (l := .i64) (a := kd) (c := (kd % 256)) rfl rfl (by rw [IntKind.wrap_u8])
def eeEmps7 : Ent := .bin .neq (.chan (some 0)) (.chan (some 0)) (.bool false)
theorem eeEmps7_ok (R : Nat → Int) (hR : ∀ j, 0 ≤ R j ∧ R j ≤ 255) (t0 t1 t2 t3 t4 t5 f0 f1 f2 f3 f4 f5 kd : Int) (hb : eeEmpB R t0 t1 t2 t3 t4 t5 f0 f1 f2 f3 f4 f5 kd) : @EntOK (eeEmpV R hR t0 t1 t2 t3 t4 t5 f0 f1 f2 f3 f4 f5 kd) Try.prog eeEmps7 := by
  letI : Env := eeEmpV R hR t0 t1 t2 t3 t4 t5 f0 f1 f2 f3 f4 f5 kd
  exact entCmp (k := .u8) (a := t0) (b := t0) rfl rfl (by show some ((t0 : Int) != t0) = some false; rw [bne_eq_false_iff_eq.2 (by first | omega | (simp only [sumVal, oct.sumF, oct.F, oct.ws]; omega))])
def eeEmps8 : Ent := .bin .neq (.chan (some 1)) (.chan (some 1)) (.bool false)
theorem eeEmps8_ok (R : Nat → Int) (hR : ∀ j, 0 ≤ R j ∧ R j ≤ 255) (t0 t1 t2 t3 t4 t5 f0 f1 f2 f3 f4 f5 kd : Int) (hb : eeEmpB R t0 t1 t2 t3 t4 t5 f0 f1 f2 f3 f4 f5 kd) : @EntOK (eeEmpV R hR t0 t1 t2 t3 t4 t5 f0 f1 f2 f3 f4 f5 kd) Try.prog eeEmps8 := by
  letI : Env := eeEmpV R hR t0 t1 t2 t3 t4 t5 f0 f1 f2 f3 f4 f5 kd
  exact entCmp (k := .u8) (a := t1) (b := t1) rfl rfl (by show some ((t1 : Int) != t1) = some false; rw [bne_eq_false_iff_eq.2 (by first | omega | (simp only [sumVal, oct.sumF, oct.F, oct.ws]; omega))])
def eeEmps9 : Ent := .bin .neq (.chan (some 2)) (.chan (some 2)) (.bool false)
theorem eeEmps9_ok (R : Nat → Int) (hR : ∀ j, 0 ≤ R j ∧ R j ≤ 255) (t0 t1 t2 t3 t4 t5 f0 f1 f2 f3 f4 f5 kd : Int) (hb : eeEmpB R t0 t1 t2 t3 t4 t5 f0 f1 f2 f3 f4 f5 kd) : @EntOK (eeEmpV R hR t0 t1 t2 t3 t4 t5 f0 f1 f2 f3 f4 f5 kd) Try.prog eeEmps9 := by
  letI : Env := eeEmpV R hR t0 t1 t2 t3 t4 t5 f0 f1 f2 f3 f4 f5 kd
  exact entCmp (k := .u8) (a := t2) (b := t2) rfl rfl (by show some ((t2 : Int) != t2) = some false; rw [bne_eq_false_iff_eq.2 (by first | omega | (simp only [sumVal, oct.sumF, oct.F, oct.ws]; omega))])
def eeEmps10 : Ent := .bin .neq (.chan (some 3)) (.chan (some 3)) (.bool false)
theorem eeEmps10_ok (R : Nat → Int) (hR : ∀ j, 0 ≤ R j ∧ R j ≤ 255) (t0 t1 t2 t3 t4 t5 f0 f1 f2 f3 f4 f5 kd : Int) (hb : eeEmpB R t0 t1 t2 t3 t4 t5 f0 f1 f2 f3 f4 f5 kd) : @EntOK (eeEmpV R hR t0 t1 t2 t3 t4 t5 f0 f1 f2 f3 f4 f5 kd) Try.prog eeEmps10 := by
  letI : Env := eeEmpV R hR t0 t1 t2 t3 t4 t5 f0 f1 f2 f3 f4 f5 kd
  exact entCmp (k := .u8) (a := t3) (b := t3) rfl rfl (by show some ((t3 : Int) != t3) = some false; rw [bne_eq_false_iff_eq.2 (by first | omega | (simp only [sumVal, oct.sumF, oct.F, oct.ws]; omega))])
def eeEmps11 : Ent := .bin .neq (.chan (some 4)) (.chan (some 4)) (.bool false)
theorem eeEmps11_ok (R : Nat → Int) (hR : ∀ j, 0 ≤ R j ∧ R j ≤ 255) (t0 t1 t2 t3 t4 t5 f0 f1 f2 f3 f4 f5 kd : Int) (hb : eeEmpB R t0 t1 t2 t3 t4 t5 f0 f1 f2 f3 f4 f5 kd) : @EntOK (eeEmpV R hR t0 t1 t2 t3 t4 t5 f0 f1 f2 f3 f4 f5 kd) Try.prog eeEmps11 := by
  letI : Env := eeEmpV R hR t0 t1 t2 t3 t4 t5 f0 f1 f2 f3 f4 f5 kd
  exact entCmp (k := .u8) (a := t4) (b := t4) rfl rfl (by show some ((t4 : Int) != t4) = some false; rw [bne_eq_false_iff_eq.2 (by first | omega | (simp only [sumVal, oct.sumF, oct.F, oct.ws]; omega))])
def eeEmps12 : Ent := .bin .neq (.chan (some 5)) (.chan (some 5)) (.bool false)
theorem eeEmps12_ok (R : Nat → Int) (hR : ∀ j, 0 ≤ R j ∧ R j ≤ 255) (t0 t1 t2 t3 t4 t5 f0 f1 f2 f3 f4 f5 kd : Int) (hb : eeEmpB R t0 t1 t2 t3 t4 t5 f0 f1 f2 f3 f4 f5 kd) : @EntOK (eeEmpV R hR t0 t1 t2 t3 t4 t5 f0 f1 f2 f3 f4 f5 kd) Try.prog eeEmps12 := by
  letI : Env := eeEmpV R hR t0 t1 t2 t3 t4 t5 f0 f1 f2 f3 f4 f5 kd
  exact entCmp (k := .u8) (a := t5) (b := t5) rfl rfl (by show some ((t5 : Int) != t5) = some false; rw [bne_eq_false_iff_eq.2 (by first | omega | (simp only [sumVal, oct.sumF, oct.F, oct.ws]; omega))])
def eeEmps13 : Ent := .bin .neq (.chan (some 6)) (.chan (some 6)) (.bool false)
theorem eeEmps13_ok (R : Nat → Int) (hR : ∀ j, 0 ≤ R j ∧ R j ≤ 255) (t0 t1 t2 t3 t4 t5 f0 f1 f2 f3 f4 f5 kd : Int) (hb : eeEmpB R t0 t1 t2 t3 t4 t5 f0 f1 f2 f3 f4 f5 kd) : @EntOK (eeEmpV R hR t0 t1 t2 t3 t4 t5 f0 f1 f2 f3 f4 f5 kd) Try.prog eeEmps13 := by
  letI : Env := eeEmpV R hR t0 t1 t2 t3 t4 t5 f0 f1 f2 f3 f4 f5 kd
  exact entCmp (k := .u8) (a := f0) (b := f0) rfl rfl (by show some ((f0 : Int) != f0) = some false; rw [bne_eq_false_iff_eq.2 (by first | omega | (simp only [sumVal, oct.sumF, oct.F, oct.ws]; omega))])
def eeEmps14 : Ent := .bin .neq (.chan (some 7)) (.chan (some 7)) (.bool false)
theorem eeEmps14_ok (R : Nat → Int) (hR : ∀ j, 0 ≤ R j ∧ R j ≤ 255) (t0 t1 t2 t3 t4 t5 f0 f1 f2 f3 f4 f5 kd : Int) (hb : eeEmpB R t0 t1 t2 t3 t4 t5 f0 f1 f2 f3 f4 f5 kd) : @EntOK (eeEmpV R hR t0 t1 t2 t3 t4 t5 f0 f1 f2 f3 f4 f5 kd) Try.prog eeEmps14 := by
  letI : Env := eeEmpV R hR t0 t1 t2 t3 t4 t5 f0 f1 f2 f3 f4 f5 kd
  exact entCmp (k := .u8) (a := f1) (b := f1) rfl rfl (by show some ((f1 : Int) != f1) = some false; rw [bne_eq_false_iff_eq.2 (by first | omega | (simp only [sumVal, oct.sumF, oct.F, oct.ws]; omega))])
def eeEmps15 : Ent := .bin .neq (.chan (some 8)) (.chan (some 8)) (.bool false)
theorem eeEmps15_ok (R : Nat → Int) (hR : ∀ j, 0 ≤ R j ∧ R j ≤ 255) (t0 t1 t2 t3 t4 t5 f0 f1 f2 f3 f4 f5 kd : Int) (hb : eeEmpB R t0 t1 t2 t3 t4 t5 f0 f1 f2 f3 f4 f5 kd) : @EntOK (eeEmpV R hR t0 t1 t2 t3 t4 t5 f0 f1 f2 f3 f4 f5 kd) Try.prog eeEmps15 := by
  letI : Env := eeEmpV R hR t0 t1 t2 t3 t4 t5 f0 f1 f2 f3 f4 f5 kd
  exact entCmp (k := .u8) (a := f2) (b := f2) rfl rfl (by show some ((f2 : Int) != f2) = some false; rw [bne_eq_false_iff_eq.2 (by first | omega | (simp only [sumVal, oct.sumF, oct.F, oct.ws]; omega))])
def eeEmps16 : Ent := .bin .neq (.chan (some 9)) (.chan (some 9)) (.bool false)
theorem eeEmps16_ok (R : Nat → Int) (hR : ∀ j, 0 ≤ R j ∧ R j ≤ 255) (t0 t1 t2 t3 t4 t5 f0 f1 f2 f3 f4 f5 kd : Int) (hb : eeEmpB R t0 t1 t2 t3 t4 t5 f0 f1 f2 f3 f4 f5 kd) : @EntOK (eeEmpV R hR t0 t1 t2 t3 t4 t5 f0 f1 f2 f3 f4 f5 kd) Try.prog eeEmps16 := by
  letI : Env := eeEmpV R hR t0 t1 t2 t3 t4 t5 f0 f1 f2 f3 f4 f5 kd
  exact entCmp (k := .u8) (a := f3) (b := f3) rfl rfl (by show some ((f3 : Int) != f3) = some false; rw [bne_eq_false_iff_eq.2 (by first | omega | (simp only [sumVal, oct.sumF, oct.F, oct.ws]; omega))])
def eeEmps17 : Ent := .bin .neq (.chan (some 10)) (.chan (some 10)) (.bool false)
theorem eeEmps17_ok (R : Nat → Int) (hR : ∀ j, 0 ≤ R j ∧ R j ≤ 255) (t0 t1 t2 t3 t4 t5 f0 f1 f2 f3 f4 f5 kd : Int) (hb : eeEmpB R t0 t1 t2 t3 t4 t5 f0 f1 f2 f3 f4 f5 kd) : @EntOK (eeEmpV R hR t0 t1 t2 t3 t4 t5 f0 f1 f2 f3 f4 f5 kd) Try.prog eeEmps17 := by
  letI : Env := eeEmpV R hR t0 t1 t2 t3 t4 t5 f0 f1 f2 f3 f4 f5 kd
  exact entCmp (k := .u8) (a := f4) (b := f4) rfl rfl (by show some ((f4 : Int) != f4) = some false; rw [bne_eq_false_iff_eq.2 (by first | omega | (simp only [sumVal, oct.sumF, oct.F, oct.ws]; omega))])
def eeEmps18 : Ent := .bin .neq (.chan (some 11)) (.chan (some 11)) (.bool false)
theorem eeEmps18_ok (R : Nat → Int) (hR : ∀ j, 0 ≤ R j ∧ R j ≤ 255) (t0 t1 t2 t3 t4 t5 f0 f1 f2 f3 f4 f5 kd : Int) (hb : eeEmpB R t0 t1 t2 t3 t4 t5 f0 f1 f2 f3 f4 f5 kd) : @EntOK (eeEmpV R hR t0 t1 t2 t3 t4 t5 f0 f1 f2 f3 f4 f5 kd) Try.prog eeEmps18 := by
  letI : Env := eeEmpV R hR t0 t1 t2 t3 t4 t5 f0 f1 f2 f3 f4 f5 kd
  exact entCmp (k := .u8) (a := f5) (b := f5) rfl rfl (by show some ((f5 : Int) != f5) = some false; rw [bne_eq_false_iff_eq.2 (by first | omega | (simp only [sumVal, oct.sumF, oct.F, oct.ws]; omega))])
def eeEmps19 : Ent := .bin .neq (.chan (some 15)) (.chan (some 15)) (.bool false)
theorem eeEmps19_ok (R : Nat → Int) (hR : ∀ j, 0 ≤ R j ∧ R j ≤ 255) (t0 t1 t2 t3 t4 t5 f0 f1 f2 f3 f4 f5 kd : Int) (hb : eeEmpB R t0 t1 t2 t3 t4 t5 f0 f1 f2 f3 f4 f5 kd) : @EntOK (eeEmpV R hR t0 t1 t2 t3 t4 t5 f0 f1 f2 f3 f4 f5 kd) Try.prog eeEmps19 := by
  letI : Env := eeEmpV R hR t0 t1 t2 t3 t4 t5 f0 f1 f2 f3 f4 f5 kd
  exact entCmp (k := .u8) (a := (kd / 256)) (b := (kd / 256)) rfl rfl (by show some (((kd / 256) : Int) != (kd / 256)) = some false; rw [bne_eq_false_iff_eq.2 (by first | omega | (simp only [sumVal, oct.sumF, oct.F, oct.ws]; omega))])
def eeEmps20 : Ent := .bin .neq (.chan (some 16)) (.chan (some 16)) (.bool false)
theorem eeEmps20_ok (R : Nat → Int) (hR : ∀ j, 0 ≤ R j ∧ R j ≤ 255) (t0 t1 t2 t3 t4 t5 f0 f1 f2 f3 f4 f5 kd : Int) (hb : eeEmpB R t0 t1 t2 t3 t4 t5 f0 f1 f2 f3 f4 f5 kd) : @EntOK (eeEmpV R hR t0 t1 t2 t3 t4 t5 f0 f1 f2 f3 f4 f5 kd) Try.prog eeEmps20 := by
  letI : Env := eeEmpV R hR t0 t1 t2 t3 t4 t5 f0 f1 f2 f3 f4 f5 kd
  exact entCmp (k := .u8) (a := (kd % 256)) (b := (kd % 256)) rfl rfl (by show some (((kd % 256) : Int) != (kd % 256)) = some false; rw [bne_eq_false_iff_eq.2 (by first | omega | (simp only [sumVal, oct.sumF, oct.F, oct.ws]; omega))])
abbrev eeEmpG : List Ent := [eeEmps0, eeEmps1, eeEmps2, eeEmps3, eeEmps4, eeEmps5, eeEmps6, eeEmps7, eeEmps8, eeEmps9, eeEmps10, eeEmps11, eeEmps12, eeEmps13, eeEmps14, eeEmps15, eeEmps16, eeEmps17, eeEmps18, eeEmps19, eeEmps20]
theorem eeEmpG_ok (R : Nat → Int) (hR : ∀ j, 0 ≤ R j ∧ R j ≤ 255) (t0 t1 t2 t3 t4 t5 f0 f1 f2 f3 f4 f5 kd : Int) (hb : eeEmpB R t0 t1 t2 t3 t4 t5 f0 f1 f2 f3 f4 f5 kd) : ∀ e ∈ eeEmpG, @EntOK (eeEmpV R hR t0 t1 t2 t3 t4 t5 f0 f1 f2 f3 f4 f5 kd) Try.prog e := by
  letI : Env := eeEmpV R hR t0 t1 t2 t3 t4 t5 f0 f1 f2 f3 f4 f5 kd
  exact (ac (eeEmps0_ok R hR t0 t1 t2 t3 t4 t5 f0 f1 f2 f3 f4 f5 kd hb) (ac (eeEmps1_ok R hR t0 t1 t2 t3 t4 t5 f0 f1 f2 f3 f4 f5 kd hb) (ac (eeEmps2_ok R hR t0 t1 t2 t3 t4 t5 f0 f1 f2 f3 f4 f5 kd hb) (ac (eeEmps3_ok R hR t0 t1 t2 t3 t4 t5 f0 f1 f2 f3 f4 f5 kd hb) (ac (eeEmps4_ok R hR t0 t1 t2 t3 t4 t5 f0 f1 f2 f3 f4 f5 kd hb) (ac (eeEmps5_ok R hR t0 t1 t2 t3 t4 t5 f0 f1 f2 f3 f4 f5 kd hb) (ac (eeEmps6_ok R hR t0 t1 t2 t3 t4 t5 f0 f1 f2 f3 f4 f5 kd hb) (ac (eeEmps7_ok R hR t0 t1 t2 t3 t4 t5 f0 f1 f2 f3 f4 f5 kd hb) (ac (eeEmps8_ok R hR t0 t1 t2 t3 t4 t5 f0 f1 f2 f3 f4 f5 kd hb) (ac (eeEmps9_ok R hR t0 t1 t2 t3 t4 t5 f0 f1 f2 f3 f4 f5 kd hb) (ac (eeEmps10_ok R hR t0 t1 t2 t3 t4 t5 f0 f1 f2 f3 f4 f5 kd hb) (ac (eeEmps11_ok R hR t0 t1 t2 t3 t4 t5 f0 f1 f2 f3 f4 f5 kd hb) (ac (eeEmps12_ok R hR t0 t1 t2 t3 t4 t5 f0 f1 f2 f3 f4 f5 kd hb) (ac (eeEmps13_ok R hR t0 t1 t2 t3 t4 t5 f0 f1 f2 f3 f4 f5 kd hb) (ac (eeEmps14_ok R hR t0 t1 t2 t3 t4 t5 f0 f1 f2 f3 f4 f5 kd hb) (ac (eeEmps15_ok R hR t0 t1 t2 t3 t4 t5 f0 f1 f2 f3 f4 f5 kd hb) (ac (eeEmps16_ok R hR t0 t1 t2 t3 t4 t5 f0 f1 f2 f3 f4 f5 kd hb) (ac (eeEmps17_ok R hR t0 t1 t2 t3 t4 t5 f0 f1 f2 f3 f4 f5 kd hb) (ac (eeEmps18_ok R hR t0 t1 t2 t3 t4 t5 f0 f1 f2 f3 f4 f5 kd hb) (ac (eeEmps19_ok R hR t0 t1 t2 t3 t4 t5 f0 f1 f2 f3 f4 f5 kd hb) (ac (eeEmps20_ok R hR t0 t1 t2 t3 t4 t5 f0 f1 f2 f3 f4 f5 kd hb) allENil)))))))))))))))))))))
abbrev eeEmp0K (R : Nat → Int) (t0 t1 t2 t3 t4 t5 f0 f1 f2 f3 f4 f5 kd : Int) : Prop := eeEmpB R t0 t1 t2 t3 t4 t5 f0 f1 f2 f3 f4 f5 kd ∧ True
def eeEmp0e0 : Ent := .bin .lss (.chan (some 12)) (.int .i64 1536) (.bool false)
theorem eeEmp0e0_ok (R : Nat → Int) (hR : ∀ j, 0 ≤ R j ∧ R j ≤ 255) (t0 t1 t2 t3 t4 t5 f0 f1 f2 f3 f4 f5 kd : Int) (hk : eeEmp0K R t0 t1 t2 t3 t4 t5 f0 f1 f2 f3 f4 f5 kd) : @EntOK (eeEmpV R hR t0 t1 t2 t3 t4 t5 f0 f1 f2 f3 f4 f5 kd) Try.prog eeEmp0e0 := by
  letI : Env := (eeEmpV R hR t0 t1 t2 t3 t4 t5 f0 f1 f2 f3 f4 f5 kd)
  obtain ⟨hb, _⟩ := hk; exact entCmp (k := .i64) (a := kd) (b := 1536) rfl rfl (by show some (decide ((kd : Int) < 1536)) = some false; rw [decide_eq_false (by first | omega | (simp only [sumVal, oct.sumF, oct.F, oct.ws]; omega))])
def eeEmp0e1 : Ent := .bin .gtr (.chan (some 12)) (.int .i64 65535) (.bool false)
theorem eeEmp0e1_ok (R : Nat → Int) (hR : ∀ j, 0 ≤ R j ∧ R j ≤ 255) (t0 t1 t2 t3 t4 t5 f0 f1 f2 f3 f4 f5 kd : Int) (hk : eeEmp0K R t0 t1 t2 t3 t4 t5 f0 f1 f2 f3 f4 f5 kd) : @EntOK (eeEmpV R hR t0 t1 t2 t3 t4 t5 f0 f1 f2 f3 f4 f5 kd) Try.prog eeEmp0e1 := by
  letI : Env := (eeEmpV R hR t0 t1 t2 t3 t4 t5 f0 f1 f2 f3 f4 f5 kd)
  obtain ⟨hb, _⟩ := hk; exact entCmp (k := .i64) (a := kd) (b := 65535) rfl rfl (by show some (decide ((kd : Int) > 65535)) = some false; rw [decide_eq_false (by first | omega | (simp only [sumVal, oct.sumF, oct.F, oct.ws]; omega))])
abbrev eeEmp0L : List Ent := eeEmp0e0 :: eeEmp0e1 :: eeEmpG
set_option maxHeartbeats 4000000 in
theorem eeEmp0 (w : World) (R : Nat → Int) (hR : ∀ j, 0 ≤ R j ∧ R j ≤ 255) (A0 : Addr) (cp0 : Nat) (hs : A0.spot = none ∨ cp0 = 0) (t0 t1 t2 t3 t4 t5 f0 f1 f2 f3 f4 f5 kd : Int) (ht0 : 0 ≤ t0 ∧ t0 ≤ 255) (ht1 : 0 ≤ t1 ∧ t1 ≤ 255) (ht2 : 0 ≤ t2 ∧ t2 ≤ 255) (ht3 : 0 ≤ t3 ∧ t3 ≤ 255) (ht4 : 0 ≤ t4 ∧ t4 ≤ 255) (ht5 : 0 ≤ t5 ∧ t5 ≤ 255) (hf0 : 0 ≤ f0 ∧ f0 ≤ 255) (hf1 : 0 ≤ f1 ∧ f1 ≤ 255) (hf2 : 0 ≤ f2 ∧ f2 ≤ 255) (hf3 : 0 ≤ f3 ∧ f3 ≤ 255) (hf4 : 0 ≤ f4 ∧ f4 ≤ 255) (hf5 : 0 ≤ f5 ∧ f5 ≤ 255) (hkd : (-9223372036854775808) ≤ kd ∧ kd ≤ 9223372036854775807) (hgk : 1536 ≤ kd ∧ kd ≤ 65535)  : Calls Try.prog 3 #[.agg #[.int .u8 t0, .int .u8 t1, .int .u8 t2, .int .u8 t3, .int .u8 t4, .int .u8 t5, .int .u8 f0, .int .u8 f1, .int .u8 f2, .int .u8 f3, .int .u8 f4, .int .u8 f5, .int .i64 kd, .slice (some A0) 0 cp0]] w (fun e w' => e = .returned (.bool true) ∧ Only [] w w') := by
  letI : Env := (eeEmpV R hR t0 t1 t2 t3 t4 t5 f0 f1 f2 f3 f4 f5 kd)
  have hb : eeEmpB R t0 t1 t2 t3 t4 t5 f0 f1 f2 f3 f4 f5 kd := ⟨hgk, ht0, ht1, ht2, ht3, ht4, ht5, hf0, hf1, hf2, hf3, hf4, hf5, hkd⟩
  have hk : eeEmp0K R t0 t1 t2 t3 t4 t5 f0 f1 f2 f3 f4 f5 kd := ⟨hb, trivial⟩
  have hents : ∀ e ∈ (eeEmp0L : List Ent), EntOK Try.prog e := (ac (eeEmp0e0_ok R hR t0 t1 t2 t3 t4 t5 f0 f1 f2 f3 f4 f5 kd hk) (ac (eeEmp0e1_ok R hR t0 t1 t2 t3 t4 t5 f0 f1 f2 f3 f4 f5 kd hk) (eeEmpG_ok R hR t0 t1 t2 t3 t4 t5 f0 f1 f2 f3 f4 f5 kd hb)))
  have hsp : SpOK Try.prog (spKnown 15) := (spKnown_ok knownBody known)
  refine lawR (tab := tabG Try.prog eeEmp0L) (sp := (spKnown 15)) hsp (tabG_ok hents) (f := 300) (args := [.agg #[.chan (some 0), .chan (some 1), .chan (some 2), .chan (some 3), .chan (some 4), .chan (some 5), .chan (some 6), .chan (some 7), .chan (some 8), .chan (some 9), .chan (some 10), .chan (some 11), .chan (some 12), .slice (some ⟨0, 0, some 0⟩) 0 0]]) (args' := [.agg #[.int .u8 t0, .int .u8 t1, .int .u8 t2, .int .u8 t3, .int .u8 t4, .int .u8 t5, .int .u8 f0, .int .u8 f1, .int .u8 f2, .int .u8 f3, .int .u8 f4, .int .u8 f5, .int .i64 kd, .slice (some A0) 0 cp0]]) (c0 := 1) (h0 := .lf) (β0 := mp1 ⟨A0.block, A0.off, 0, 0, 1⟩) (w := w) (by kernel_rfl) (⟨fun i o hi => (by rw [Tr.get_lf] at hi; cases hi), fun i j o o' I J hi => (by rw [Tr.get_lf] at hi; cases hi)⟩) (fun i hi => ?_) ?_
  · match i, hi with
    | i + 1, _ => rfl
  · exact (PW.cons (PW.agg (PW.cons (.opq 0 rfl (fun b h => by cases h)) (PW.cons (.opq 1 rfl (fun b h => by cases h)) (PW.cons (.opq 2 rfl (fun b h => by cases h)) (PW.cons (.opq 3 rfl (fun b h => by cases h)) (PW.cons (.opq 4 rfl (fun b h => by cases h)) (PW.cons (.opq 5 rfl (fun b h => by cases h)) (PW.cons (.opq 6 rfl (fun b h => by cases h)) (PW.cons (.opq 7 rfl (fun b h => by cases h)) (PW.cons (.opq 8 rfl (fun b h => by cases h)) (PW.cons (.opq 9 rfl (fun b h => by cases h)) (PW.cons (.opq 10 rfl (fun b h => by cases h)) (PW.cons (.opq 11 rfl (fun b h => by cases h)) (PW.cons (.opq 12 rfl (fun b h => by cases h)) (PW.cons (rowNone_vr rfl hs) (PW.nil _)))))))))))))))) (PW.nil _))
theorem EtherEncodesEmp (w : World) (R : Nat → Int) (hR : ∀ j, 0 ≤ R j ∧ R j ≤ 255) (A0 : Addr) (cp0 : Nat) (hs : A0.spot = none ∨ cp0 = 0) (t0 t1 t2 t3 t4 t5 f0 f1 f2 f3 f4 f5 kd : Int) (ht0 : 0 ≤ t0 ∧ t0 ≤ 255) (ht1 : 0 ≤ t1 ∧ t1 ≤ 255) (ht2 : 0 ≤ t2 ∧ t2 ≤ 255) (ht3 : 0 ≤ t3 ∧ t3 ≤ 255) (ht4 : 0 ≤ t4 ∧ t4 ≤ 255) (ht5 : 0 ≤ t5 ∧ t5 ≤ 255) (hf0 : 0 ≤ f0 ∧ f0 ≤ 255) (hf1 : 0 ≤ f1 ∧ f1 ≤ 255) (hf2 : 0 ≤ f2 ∧ f2 ≤ 255) (hf3 : 0 ≤ f3 ∧ f3 ≤ 255) (hf4 : 0 ≤ f4 ∧ f4 ≤ 255) (hf5 : 0 ≤ f5 ∧ f5 ≤ 255) (hkd : (-9223372036854775808) ≤ kd ∧ kd ≤ 9223372036854775807) (hgk : 1536 ≤ kd ∧ kd ≤ 65535) : Calls Try.prog 3 #[.agg #[.int .u8 t0, .int .u8 t1, .int .u8 t2, .int .u8 t3, .int .u8 t4, .int .u8 t5, .int .u8 f0, .int .u8 f1, .int .u8 f2, .int .u8 f3, .int .u8 f4, .int .u8 f5, .int .i64 kd, .slice (some A0) 0 cp0]] w (fun e w' => e = .returned (.bool true) ∧ Only [] w w') := by
  exact eeEmp0 w R hR A0 cp0 hs t0 t1 t2 t3 t4 t5 f0 f1 f2 f3 f4 f5 kd ht0 ht1 ht2 ht3 ht4 ht5 hf0 hf1 hf2 hf3 hf4 hf5 hkd hgk 
abbrev eeEmpBadV (R : Nat → Int) (hR : ∀ j, 0 ≤ R j ∧ R j ≤ 255) (t0 t1 t2 t3 t4 t5 f0 f1 f2 f3 f4 f5 kd : Int) : Env := envR [.int .u8 t0, .int .u8 t1, .int .u8 t2, .int .u8 t3, .int .u8 t4, .int .u8 t5, .int .u8 f0, .int .u8 f1, .int .u8 f2, .int .u8 f3, .int .u8 f4, .int .u8 f5, .int .i64 kd] R hR
abbrev eeEmpBadB (R : Nat → Int) (t0 t1 t2 t3 t4 t5 f0 f1 f2 f3 f4 f5 kd : Int) : Prop := (kd < 1536 ∨ 65535 < kd) ∧ (0 ≤ t0 ∧ t0 ≤ 255) ∧ (0 ≤ t1 ∧ t1 ≤ 255) ∧ (0 ≤ t2 ∧ t2 ≤ 255) ∧ (0 ≤ t3 ∧ t3 ≤ 255) ∧ (0 ≤ t4 ∧ t4 ≤ 255) ∧ (0 ≤ t5 ∧ t5 ≤ 255) ∧ (0 ≤ f0 ∧ f0 ≤ 255) ∧ (0 ≤ f1 ∧ f1 ≤ 255) ∧ (0 ≤ f2 ∧ f2 ≤ 255) ∧ (0 ≤ f3 ∧ f3 ≤ 255) ∧ (0 ≤ f4 ∧ f4 ≤ 255) ∧ (0 ≤ f5 ∧ f5 ≤ 255) ∧ ((-9223372036854775808) ≤ kd ∧ kd ≤ 9223372036854775807)
def eeEmpBads0 : Ent := .bin .lss (.chan (some 12)) (.int .i64 1536) (.bool true)
theorem eeEmpBads0_ok (R : Nat → Int) (hR : ∀ j, 0 ≤ R j ∧ R j ≤ 255) (t0 t1 t2 t3 t4 t5 f0 f1 f2 f3 f4 f5 kd : Int) (hb : eeEmpBadB R t0 t1 t2 t3 t4 t5 f0 f1 f2 f3 f4 f5 kd) (hc : kd < 1536) : @EntOK (eeEmpBadV R hR t0 t1 t2 t3 t4 t5 f0 f1 f2 f3 f4 f5 kd) Try.prog eeEmpBads0 := by
  letI : Env := eeEmpBadV R hR t0 t1 t2 t3 t4 t5 f0 f1 f2 f3 f4 f5 kd
  exact entCmp (k := .i64) (a := kd) (b := 1536) rfl rfl (by show some (decide ((kd : Int) < 1536)) = some true; rw [decide_eq_true (by first | omega | (simp only [sumVal, oct.sumF, oct.F, oct.ws]; omega))])
def eeEmpBads1 : Ent := .bin .lss (.chan (some 12)) (.int .i64 1536) (.bool false)
theorem eeEmpBads1_ok (R : Nat → Int) (hR : ∀ j, 0 ≤ R j ∧ R j ≤ 255) (t0 t1 t2 t3 t4 t5 f0 f1 f2 f3 f4 f5 kd : Int) (hb : eeEmpBadB R t0 t1 t2 t3 t4 t5 f0 f1 f2 f3 f4 f5 kd) (hc : ¬ (kd < 1536)) : @EntOK (eeEmpBadV R hR t0 t1 t2 t3 t4 t5 f0 f1 f2 f3 f4 f5 kd) Try.prog eeEmpBads1 := by
  letI : Env := eeEmpBadV R hR t0 t1 t2 t3 t4 t5 f0 f1 f2 f3 f4 f5 kd
  exact entCmp (k := .i64) (a := kd) (b := 1536) rfl rfl (by show some (decide ((kd : Int) < 1536)) = some false; rw [decide_eq_false (by first | omega | (simp only [sumVal, oct.sumF, oct.F, oct.ws]; omega))])
def eeEmpBads2 : Ent := .bin .gtr (.chan (some 12)) (.int .i64 65535) (.bool true)
theorem eeEmpBads2_ok (R : Nat → Int) (hR : ∀ j, 0 ≤ R j ∧ R j ≤ 255) (t0 t1 t2 t3 t4 t5 f0 f1 f2 f3 f4 f5 kd : Int) (hb : eeEmpBadB R t0 t1 t2 t3 t4 t5 f0 f1 f2 f3 f4 f5 kd) (hc : kd > 65535) : @EntOK (eeEmpBadV R hR t0 t1 t2 t3 t4 t5 f0 f1 f2 f3 f4 f5 kd) Try.prog eeEmpBads2 := by
  letI : Env := eeEmpBadV R hR t0 t1 t2 t3 t4 t5 f0 f1 f2 f3 f4 f5 kd
  exact entCmp (k := .i64) (a := kd) (b := 65535) rfl rfl (by show some (decide ((kd : Int) > 65535)) = some true; rw [decide_eq_true (by first | omega | (simp only [sumVal, oct.sumF, oct.F, oct.ws]; omega))])
abbrev eeEmpBadG : List Ent := []
theorem eeEmpBadG_ok (R : Nat → Int) (hR : ∀ j, 0 ≤ R j ∧ R j ≤ 255) (t0 t1 t2 t3 t4 t5 f0 f1 f2 f3 f4 f5 kd : Int) (hb : eeEmpBadB R t0 t1 t2 t3 t4 t5 f0 f1 f2 f3 f4 f5 kd) : ∀ e ∈ eeEmpBadG, @EntOK (eeEmpBadV R hR t0 t1 t2 t3 t4 t5 f0 f1 f2 f3 f4 f5 kd) Try.prog e := by
  letI : Env := eeEmpBadV R hR t0 t1 t2 t3 t4 t5 f0 f1 f2 f3 f4 f5 kd
  exact allENil
abbrev eeEmpBad0L : List Ent := eeEmpBads0 :: eeEmpBadG
set_option maxHeartbeats 4000000 in
theorem eeEmpBad0 (w : World) (R : Nat → Int) (hR : ∀ j, 0 ≤ R j ∧ R j ≤ 255) (A0 : Addr) (cp0 : Nat) (hs : A0.spot = none ∨ cp0 = 0) (t0 t1 t2 t3 t4 t5 f0 f1 f2 f3 f4 f5 kd : Int) (ht0 : 0 ≤ t0 ∧ t0 ≤ 255) (ht1 : 0 ≤ t1 ∧ t1 ≤ 255) (ht2 : 0 ≤ t2 ∧ t2 ≤ 255) (ht3 : 0 ≤ t3 ∧ t3 ≤ 255) (ht4 : 0 ≤ t4 ∧ t4 ≤ 255) (ht5 : 0 ≤ t5 ∧ t5 ≤ 255) (hf0 : 0 ≤ f0 ∧ f0 ≤ 255) (hf1 : 0 ≤ f1 ∧ f1 ≤ 255) (hf2 : 0 ≤ f2 ∧ f2 ≤ 255) (hf3 : 0 ≤ f3 ∧ f3 ≤ 255) (hf4 : 0 ≤ f4 ∧ f4 ≤ 255) (hf5 : 0 ≤ f5 ∧ f5 ≤ 255) (hkd : (-9223372036854775808) ≤ kd ∧ kd ≤ 9223372036854775807) (hgk : kd < 1536 ∨ 65535 < kd) (k0 : kd < 1536) : Calls Try.prog 3 #[.agg #[.int .u8 t0, .int .u8 t1, .int .u8 t2, .int .u8 t3, .int .u8 t4, .int .u8 t5, .int .u8 f0, .int .u8 f1, .int .u8 f2, .int .u8 f3, .int .u8 f4, .int .u8 f5, .int .i64 kd, .slice (some A0) 0 cp0]] w (fun e w' => e = .returned (.bool true) ∧ Only [] w w') := by
  letI : Env := (eeEmpBadV R hR t0 t1 t2 t3 t4 t5 f0 f1 f2 f3 f4 f5 kd)
  have hb : eeEmpBadB R t0 t1 t2 t3 t4 t5 f0 f1 f2 f3 f4 f5 kd := ⟨hgk, ht0, ht1, ht2, ht3, ht4, ht5, hf0, hf1, hf2, hf3, hf4, hf5, hkd⟩
  have hents : ∀ e ∈ (eeEmpBad0L : List Ent), EntOK Try.prog e := (ac (eeEmpBads0_ok R hR t0 t1 t2 t3 t4 t5 f0 f1 f2 f3 f4 f5 kd hb k0) (eeEmpBadG_ok R hR t0 t1 t2 t3 t4 t5 f0 f1 f2 f3 f4 f5 kd hb))
  have hsp : SpOK Try.prog (spKnown 15) := (spKnown_ok knownBody known)
  refine lawR (tab := tabG Try.prog eeEmpBad0L) (sp := (spKnown 15)) hsp (tabG_ok hents) (f := 300) (args := [.agg #[.chan (some 0), .chan (some 1), .chan (some 2), .chan (some 3), .chan (some 4), .chan (some 5), .chan (some 6), .chan (some 7), .chan (some 8), .chan (some 9), .chan (some 10), .chan (some 11), .chan (some 12), .slice (some ⟨0, 0, some 0⟩) 0 0]]) (args' := [.agg #[.int .u8 t0, .int .u8 t1, .int .u8 t2, .int .u8 t3, .int .u8 t4, .int .u8 t5, .int .u8 f0, .int .u8 f1, .int .u8 f2, .int .u8 f3, .int .u8 f4, .int .u8 f5, .int .i64 kd, .slice (some A0) 0 cp0]]) (c0 := 1) (h0 := .lf) (β0 := mp1 ⟨A0.block, A0.off, 0, 0, 1⟩) (w := w) (by kernel_rfl) (⟨fun i o hi => (by rw [Tr.get_lf] at hi; cases hi), fun i j o o' I J hi => (by rw [Tr.get_lf] at hi; cases hi)⟩) (fun i hi => ?_) ?_
  · match i, hi with
    | i + 1, _ => rfl
  · exact (PW.cons (PW.agg (PW.cons (.opq 0 rfl (fun b h => by cases h)) (PW.cons (.opq 1 rfl (fun b h => by cases h)) (PW.cons (.opq 2 rfl (fun b h => by cases h)) (PW.cons (.opq 3 rfl (fun b h => by cases h)) (PW.cons (.opq 4 rfl (fun b h => by cases h)) (PW.cons (.opq 5 rfl (fun b h => by cases h)) (PW.cons (.opq 6 rfl (fun b h => by cases h)) (PW.cons (.opq 7 rfl (fun b h => by cases h)) (PW.cons (.opq 8 rfl (fun b h => by cases h)) (PW.cons (.opq 9 rfl (fun b h => by cases h)) (PW.cons (.opq 10 rfl (fun b h => by cases h)) (PW.cons (.opq 11 rfl (fun b h => by cases h)) (PW.cons (.opq 12 rfl (fun b h => by cases h)) (PW.cons (rowNone_vr rfl hs) (PW.nil _)))))))))))))))) (PW.nil _))
abbrev eeEmpBad1L : List Ent := eeEmpBads1 :: eeEmpBads2 :: eeEmpBadG
set_option maxHeartbeats 4000000 in
theorem eeEmpBad1 (w : World) (R : Nat → Int) (hR : ∀ j, 0 ≤ R j ∧ R j ≤ 255) (A0 : Addr) (cp0 : Nat) (hs : A0.spot = none ∨ cp0 = 0) (t0 t1 t2 t3 t4 t5 f0 f1 f2 f3 f4 f5 kd : Int) (ht0 : 0 ≤ t0 ∧ t0 ≤ 255) (ht1 : 0 ≤ t1 ∧ t1 ≤ 255) (ht2 : 0 ≤ t2 ∧ t2 ≤ 255) (ht3 : 0 ≤ t3 ∧ t3 ≤ 255) (ht4 : 0 ≤ t4 ∧ t4 ≤ 255) (ht5 : 0 ≤ t5 ∧ t5 ≤ 255) (hf0 : 0 ≤ f0 ∧ f0 ≤ 255) (hf1 : 0 ≤ f1 ∧ f1 ≤ 255) (hf2 : 0 ≤ f2 ∧ f2 ≤ 255) (hf3 : 0 ≤ f3 ∧ f3 ≤ 255) (hf4 : 0 ≤ f4 ∧ f4 ≤ 255) (hf5 : 0 ≤ f5 ∧ f5 ≤ 255) (hkd : (-9223372036854775808) ≤ kd ∧ kd ≤ 9223372036854775807) (hgk : kd < 1536 ∨ 65535 < kd) (k0 : ¬ (kd < 1536)) (k1 : kd > 65535) : Calls Try.prog 3 #[.agg #[.int .u8 t0, .int .u8 t1, .int .u8 t2, .int .u8 t3, .int .u8 t4, .int .u8 t5, .int .u8 f0, .int .u8 f1, .int .u8 f2, .int .u8 f3, .int .u8 f4, .int .u8 f5, .int .i64 kd, .slice (some A0) 0 cp0]] w (fun e w' => e = .returned (.bool true) ∧ Only [] w w') := by
  letI : Env := (eeEmpBadV R hR t0 t1 t2 t3 t4 t5 f0 f1 f2 f3 f4 f5 kd)
  have hb : eeEmpBadB R t0 t1 t2 t3 t4 t5 f0 f1 f2 f3 f4 f5 kd := ⟨hgk, ht0, ht1, ht2, ht3, ht4, ht5, hf0, hf1, hf2, hf3, hf4, hf5, hkd⟩
  have hents : ∀ e ∈ (eeEmpBad1L : List Ent), EntOK Try.prog e := (ac (eeEmpBads1_ok R hR t0 t1 t2 t3 t4 t5 f0 f1 f2 f3 f4 f5 kd hb k0) (ac (eeEmpBads2_ok R hR t0 t1 t2 t3 t4 t5 f0 f1 f2 f3 f4 f5 kd hb k1) (eeEmpBadG_ok R hR t0 t1 t2 t3 t4 t5 f0 f1 f2 f3 f4 f5 kd hb)))
  have hsp : SpOK Try.prog (spKnown 15) := (spKnown_ok knownBody known)
  refine lawR (tab := tabG Try.prog eeEmpBad1L) (sp := (spKnown 15)) hsp (tabG_ok hents) (f := 300) (args := [.agg #[.chan (some 0), .chan (some 1), .chan (some 2), .chan (some 3), .chan (some 4), .chan (some 5), .chan (some 6), .chan (some 7), .chan (some 8), .chan (some 9), .chan (some 10), .chan (some 11), .chan (some 12), .slice (some ⟨0, 0, some 0⟩) 0 0]]) (args' := [.agg #[.int .u8 t0, .int .u8 t1, .int .u8 t2, .int .u8 t3, .int .u8 t4, .int .u8 t5, .int .u8 f0, .int .u8 f1, .int .u8 f2, .int .u8 f3, .int .u8 f4, .int .u8 f5, .int .i64 kd, .slice (some A0) 0 cp0]]) (c0 := 1) (h0 := .lf) (β0 := mp1 ⟨A0.block, A0.off, 0, 0, 1⟩) (w := w) (by kernel_rfl) (⟨fun i o hi => (by rw [Tr.get_lf] at hi; cases hi), fun i j o o' I J hi => (by rw [Tr.get_lf] at hi; cases hi)⟩) (fun i hi => ?_) ?_
  · match i, hi with
    | i + 1, _ => rfl
  · exact (PW.cons (PW.agg (PW.cons (.opq 0 rfl (fun b h => by cases h)) (PW.cons (.opq 1 rfl (fun b h => by cases h)) (PW.cons (.opq 2 rfl (fun b h => by cases h)) (PW.cons (.opq 3 rfl (fun b h => by cases h)) (PW.cons (.opq 4 rfl (fun b h => by cases h)) (PW.cons (.opq 5 rfl (fun b h => by cases h)) (PW.cons (.opq 6 rfl (fun b h => by cases h)) (PW.cons (.opq 7 rfl (fun b h => by cases h)) (PW.cons (.opq 8 rfl (fun b h => by cases h)) (PW.cons (.opq 9 rfl (fun b h => by cases h)) (PW.cons (.opq 10 rfl (fun b h => by cases h)) (PW.cons (.opq 11 rfl (fun b h => by cases h)) (PW.cons (.opq 12 rfl (fun b h => by cases h)) (PW.cons (rowNone_vr rfl hs) (PW.nil _)))))))))))))))) (PW.nil _))
theorem EtherEncodesEmpBad (w : World) (R : Nat → Int) (hR : ∀ j, 0 ≤ R j ∧ R j ≤ 255) (A0 : Addr) (cp0 : Nat) (hs : A0.spot = none ∨ cp0 = 0) (t0 t1 t2 t3 t4 t5 f0 f1 f2 f3 f4 f5 kd : Int) (ht0 : 0 ≤ t0 ∧ t0 ≤ 255) (ht1 : 0 ≤ t1 ∧ t1 ≤ 255) (ht2 : 0 ≤ t2 ∧ t2 ≤ 255) (ht3 : 0 ≤ t3 ∧ t3 ≤ 255) (ht4 : 0 ≤ t4 ∧ t4 ≤ 255) (ht5 : 0 ≤ t5 ∧ t5 ≤ 255) (hf0 : 0 ≤ f0 ∧ f0 ≤ 255) (hf1 : 0 ≤ f1 ∧ f1 ≤ 255) (hf2 : 0 ≤ f2 ∧ f2 ≤ 255) (hf3 : 0 ≤ f3 ∧ f3 ≤ 255) (hf4 : 0 ≤ f4 ∧ f4 ≤ 255) (hf5 : 0 ≤ f5 ∧ f5 ≤ 255) (hkd : (-9223372036854775808) ≤ kd ∧ kd ≤ 9223372036854775807) (hgk : kd < 1536 ∨ 65535 < kd) : Calls Try.prog 3 #[.agg #[.int .u8 t0, .int .u8 t1, .int .u8 t2, .int .u8 t3, .int .u8 t4, .int .u8 t5, .int .u8 f0, .int .u8 f1, .int .u8 f2, .int .u8 f3, .int .u8 f4, .int .u8 f5, .int .i64 kd, .slice (some A0) 0 cp0]] w (fun e w' => e = .returned (.bool true) ∧ Only [] w w') := by
  by_cases h1 : kd < 1536
  ·
    exact eeEmpBad0 w R hR A0 cp0 hs t0 t1 t2 t3 t4 t5 f0 f1 f2 f3 f4 f5 kd ht0 ht1 ht2 ht3 ht4 ht5 hf0 hf1 hf2 hf3 hf4 hf5 hkd hgk h1
  ·
    by_cases h2 : kd > 65535
    ·
      exact eeEmpBad1 w R hR A0 cp0 hs t0 t1 t2 t3 t4 t5 f0 f1 f2 f3 f4 f5 kd ht0 ht1 ht2 ht3 ht4 ht5 hf0 hf1 hf2 hf3 hf4 hf5 hkd hgk h1 h2
    ·
      exfalso; omega
abbrev eeBigV (R : Nat → Int) (hR : ∀ j, 0 ≤ R j ∧ R j ≤ 255) (A0 : Option Addr) (n0 cp0 : Nat) (t0 t1 t2 t3 t4 t5 f0 f1 f2 f3 f4 f5 kd : Int) : Env := envR [.slice A0 n0 cp0, .int .u8 t0, .int .u8 t1, .int .u8 t2, .int .u8 t3, .int .u8 t4, .int .u8 t5, .int .u8 f0, .int .u8 f1, .int .u8 f2, .int .u8 f3, .int .u8 f4, .int .u8 f5, .int .i64 kd, .int .i64 (n0 : Int)] R hR
abbrev eeBigB (R : Nat → Int) (A0 : Option Addr) (n0 cp0 : Nat) (t0 t1 t2 t3 t4 t5 f0 f1 f2 f3 f4 f5 kd : Int) : Prop := 2000 < n0 ∧ (0 ≤ t0 ∧ t0 ≤ 255) ∧ (0 ≤ t1 ∧ t1 ≤ 255) ∧ (0 ≤ t2 ∧ t2 ≤ 255) ∧ (0 ≤ t3 ∧ t3 ≤ 255) ∧ (0 ≤ t4 ∧ t4 ≤ 255) ∧ (0 ≤ t5 ∧ t5 ≤ 255) ∧ (0 ≤ f0 ∧ f0 ≤ 255) ∧ (0 ≤ f1 ∧ f1 ≤ 255) ∧ (0 ≤ f2 ∧ f2 ≤ 255) ∧ (0 ≤ f3 ∧ f3 ≤ 255) ∧ (0 ≤ f4 ∧ f4 ≤ 255) ∧ (0 ≤ f5 ∧ f5 ≤ 255) ∧ ((-9223372036854775808) ≤ kd ∧ kd ≤ 9223372036854775807)
def eeBigs0 : Ent := .bin .gtr (.chan (some 14)) (.int .i64 2000) (.bool true)
theorem eeBigs0_ok (R : Nat → Int) (hR : ∀ j, 0 ≤ R j ∧ R j ≤ 255) (A0 : Option Addr) (n0 cp0 : Nat) (t0 t1 t2 t3 t4 t5 f0 f1 f2 f3 f4 f5 kd : Int) (hb : eeBigB R A0 n0 cp0 t0 t1 t2 t3 t4 t5 f0 f1 f2 f3 f4 f5 kd) (hc : (n0 : Int) > 2000) : @EntOK (eeBigV R hR A0 n0 cp0 t0 t1 t2 t3 t4 t5 f0 f1 f2 f3 f4 f5 kd) Try.prog eeBigs0 := by
  letI : Env := eeBigV R hR A0 n0 cp0 t0 t1 t2 t3 t4 t5 f0 f1 f2 f3 f4 f5 kd
  exact entCmp (k := .i64) (a := (n0 : Int)) (b := 2000) rfl rfl (by show some (decide (((n0 : Int) : Int) > 2000)) = some true; rw [decide_eq_true (by first | omega | (simp only [sumVal, oct.sumF, oct.F, oct.ws]; omega))])
abbrev eeBigG : List Ent := []
theorem eeBigG_ok (R : Nat → Int) (hR : ∀ j, 0 ≤ R j ∧ R j ≤ 255) (A0 : Option Addr) (n0 cp0 : Nat) (t0 t1 t2 t3 t4 t5 f0 f1 f2 f3 f4 f5 kd : Int) (hb : eeBigB R A0 n0 cp0 t0 t1 t2 t3 t4 t5 f0 f1 f2 f3 f4 f5 kd) : ∀ e ∈ eeBigG, @EntOK (eeBigV R hR A0 n0 cp0 t0 t1 t2 t3 t4 t5 f0 f1 f2 f3 f4 f5 kd) Try.prog e := by
  letI : Env := eeBigV R hR A0 n0 cp0 t0 t1 t2 t3 t4 t5 f0 f1 f2 f3 f4 f5 kd
  exact allENil
abbrev eeBig0K (R : Nat → Int) (A0 : Option Addr) (n0 cp0 : Nat) (t0 t1 t2 t3 t4 t5 f0 f1 f2 f3 f4 f5 kd : Int) : Prop := eeBigB R A0 n0 cp0 t0 t1 t2 t3 t4 t5 f0 f1 f2 f3 f4 f5 kd ∧ ((n0 : Int) > 2000) ∧ True
def eeBig0e0 : Ent := .len false (.chan (some 1000)) (.chan (some 14))
theorem eeBig0e0_ok (R : Nat → Int) (hR : ∀ j, 0 ≤ R j ∧ R j ≤ 255) (A0 : Option Addr) (n0 cp0 : Nat) (t0 t1 t2 t3 t4 t5 f0 f1 f2 f3 f4 f5 kd : Int) (hk : eeBig0K R A0 n0 cp0 t0 t1 t2 t3 t4 t5 f0 f1 f2 f3 f4 f5 kd) : @EntOK (eeBigV R hR A0 n0 cp0 t0 t1 t2 t3 t4 t5 f0 f1 f2 f3 f4 f5 kd) Try.prog eeBig0e0 := by
  letI : Env := (eeBigV R hR A0 n0 cp0 t0 t1 t2 t3 t4 t5 f0 f1 f2 f3 f4 f5 kd)
  obtain ⟨hb, k0, _⟩ := hk; exact entLen (i := 1000) (j := 14) rfl rfl
abbrev eeBig0L : List Ent := eeBig0e0 :: eeBigs0 :: eeBigG
set_option maxHeartbeats 4000000 in
theorem eeBig0 (w : World) (R : Nat → Int) (hR : ∀ j, 0 ≤ R j ∧ R j ≤ 255) (A0 : Option Addr) (n0 cp0 : Nat) (hn : 2000 < n0) (t0 t1 t2 t3 t4 t5 f0 f1 f2 f3 f4 f5 kd : Int) (ht0 : 0 ≤ t0 ∧ t0 ≤ 255) (ht1 : 0 ≤ t1 ∧ t1 ≤ 255) (ht2 : 0 ≤ t2 ∧ t2 ≤ 255) (ht3 : 0 ≤ t3 ∧ t3 ≤ 255) (ht4 : 0 ≤ t4 ∧ t4 ≤ 255) (ht5 : 0 ≤ t5 ∧ t5 ≤ 255) (hf0 : 0 ≤ f0 ∧ f0 ≤ 255) (hf1 : 0 ≤ f1 ∧ f1 ≤ 255) (hf2 : 0 ≤ f2 ∧ f2 ≤ 255) (hf3 : 0 ≤ f3 ∧ f3 ≤ 255) (hf4 : 0 ≤ f4 ∧ f4 ≤ 255) (hf5 : 0 ≤ f5 ∧ f5 ≤ 255) (hkd : (-9223372036854775808) ≤ kd ∧ kd ≤ 9223372036854775807) (k0 : (n0 : Int) > 2000) : Calls Try.prog 3 #[.agg #[.int .u8 t0, .int .u8 t1, .int .u8 t2, .int .u8 t3, .int .u8 t4, .int .u8 t5, .int .u8 f0, .int .u8 f1, .int .u8 f2, .int .u8 f3, .int .u8 f4, .int .u8 f5, .int .i64 kd, .slice A0 n0 cp0]] w (fun e w' => e = .returned (.bool true) ∧ Only [] w w') := by
  letI : Env := (eeBigV R hR A0 n0 cp0 t0 t1 t2 t3 t4 t5 f0 f1 f2 f3 f4 f5 kd)
  have hb : eeBigB R A0 n0 cp0 t0 t1 t2 t3 t4 t5 f0 f1 f2 f3 f4 f5 kd := ⟨hn, ht0, ht1, ht2, ht3, ht4, ht5, hf0, hf1, hf2, hf3, hf4, hf5, hkd⟩
  have hk : eeBig0K R A0 n0 cp0 t0 t1 t2 t3 t4 t5 f0 f1 f2 f3 f4 f5 kd := ⟨hb, k0, trivial⟩
  have hents : ∀ e ∈ (eeBig0L : List Ent), EntOK Try.prog e := (ac (eeBig0e0_ok R hR A0 n0 cp0 t0 t1 t2 t3 t4 t5 f0 f1 f2 f3 f4 f5 kd hk) (ac (eeBigs0_ok R hR A0 n0 cp0 t0 t1 t2 t3 t4 t5 f0 f1 f2 f3 f4 f5 kd hb k0) (eeBigG_ok R hR A0 n0 cp0 t0 t1 t2 t3 t4 t5 f0 f1 f2 f3 f4 f5 kd hb)))
  have hsp : SpOK Try.prog (spKnown 15) := (spKnown_ok knownBody known)
  refine lawR (tab := tabG Try.prog eeBig0L) (sp := (spKnown 15)) hsp (tabG_ok hents) (f := 300) (args := [.agg #[.chan (some 1), .chan (some 2), .chan (some 3), .chan (some 4), .chan (some 5), .chan (some 6), .chan (some 7), .chan (some 8), .chan (some 9), .chan (some 10), .chan (some 11), .chan (some 12), .chan (some 13), .chan (some 1000)]]) (args' := [.agg #[.int .u8 t0, .int .u8 t1, .int .u8 t2, .int .u8 t3, .int .u8 t4, .int .u8 t5, .int .u8 f0, .int .u8 f1, .int .u8 f2, .int .u8 f3, .int .u8 f4, .int .u8 f5, .int .i64 kd, .slice A0 n0 cp0]]) (c0 := 0) (h0 := .lf) (β0 := fun _ => none) (w := w) (by kernel_rfl) (Sim.nothing Try.prog w.heap.size w) (fun i hi => ?_) ?_
  · rfl
  · exact (PW.cons (PW.agg (PW.cons (.opq 1 rfl (fun b h => by cases h)) (PW.cons (.opq 2 rfl (fun b h => by cases h)) (PW.cons (.opq 3 rfl (fun b h => by cases h)) (PW.cons (.opq 4 rfl (fun b h => by cases h)) (PW.cons (.opq 5 rfl (fun b h => by cases h)) (PW.cons (.opq 6 rfl (fun b h => by cases h)) (PW.cons (.opq 7 rfl (fun b h => by cases h)) (PW.cons (.opq 8 rfl (fun b h => by cases h)) (PW.cons (.opq 9 rfl (fun b h => by cases h)) (PW.cons (.opq 10 rfl (fun b h => by cases h)) (PW.cons (.opq 11 rfl (fun b h => by cases h)) (PW.cons (.opq 12 rfl (fun b h => by cases h)) (PW.cons (.opq 13 rfl (fun b h => by cases h)) (PW.cons (.opq 1000 rfl (fun b h => by cases h)) (PW.nil _)))))))))))))))) (PW.nil _))
theorem EtherEncodesBig (w : World) (R : Nat → Int) (hR : ∀ j, 0 ≤ R j ∧ R j ≤ 255) (A0 : Option Addr) (n0 cp0 : Nat) (hn : 2000 < n0) (t0 t1 t2 t3 t4 t5 f0 f1 f2 f3 f4 f5 kd : Int) (ht0 : 0 ≤ t0 ∧ t0 ≤ 255) (ht1 : 0 ≤ t1 ∧ t1 ≤ 255) (ht2 : 0 ≤ t2 ∧ t2 ≤ 255) (ht3 : 0 ≤ t3 ∧ t3 ≤ 255) (ht4 : 0 ≤ t4 ∧ t4 ≤ 255) (ht5 : 0 ≤ t5 ∧ t5 ≤ 255) (hf0 : 0 ≤ f0 ∧ f0 ≤ 255) (hf1 : 0 ≤ f1 ∧ f1 ≤ 255) (hf2 : 0 ≤ f2 ∧ f2 ≤ 255) (hf3 : 0 ≤ f3 ∧ f3 ≤ 255) (hf4 : 0 ≤ f4 ∧ f4 ≤ 255) (hf5 : 0 ≤ f5 ∧ f5 ≤ 255) (hkd : (-9223372036854775808) ≤ kd ∧ kd ≤ 9223372036854775807) : Calls Try.prog 3 #[.agg #[.int .u8 t0, .int .u8 t1, .int .u8 t2, .int .u8 t3, .int .u8 t4, .int .u8 t5, .int .u8 f0, .int .u8 f1, .int .u8 f2, .int .u8 f3, .int .u8 f4, .int .u8 f5, .int .i64 kd, .slice A0 n0 cp0]] w (fun e w' => e = .returned (.bool true) ∧ Only [] w w') := by
  by_cases h1 : (n0 : Int) > 2000
  ·
    exact eeBig0 w R hR A0 n0 cp0 hn t0 t1 t2 t3 t4 t5 f0 f1 f2 f3 f4 f5 kd ht0 ht1 ht2 ht3 ht4 ht5 hf0 hf1 hf2 hf3 hf4 hf5 hkd h1
  ·
    exfalso; omega
theorem EtherEncodesAll (w : World) (a0 : Option Addr) (len0 cap0 : Nat) (z0 : List Int) (h0 : IsRow .u8 w a0 len0 cap0 z0) (t0 t1 t2 t3 t4 t5 f0 f1 f2 f3 f4 f5 kd : Int) (ht0 : 0 ≤ t0 ∧ t0 ≤ 255) (ht1 : 0 ≤ t1 ∧ t1 ≤ 255) (ht2 : 0 ≤ t2 ∧ t2 ≤ 255) (ht3 : 0 ≤ t3 ∧ t3 ≤ 255) (ht4 : 0 ≤ t4 ∧ t4 ≤ 255) (ht5 : 0 ≤ t5 ∧ t5 ≤ 255) (hf0 : 0 ≤ f0 ∧ f0 ≤ 255) (hf1 : 0 ≤ f1 ∧ f1 ≤ 255) (hf2 : 0 ≤ f2 ∧ f2 ≤ 255) (hf3 : 0 ≤ f3 ∧ f3 ≤ 255) (hf4 : 0 ≤ f4 ∧ f4 ≤ 255) (hf5 : 0 ≤ f5 ∧ f5 ≤ 255) (hkd : (-9223372036854775808) ≤ kd ∧ kd ≤ 9223372036854775807) : Calls Try.prog 3 #[.agg #[.int .u8 t0, .int .u8 t1, .int .u8 t2, .int .u8 t3, .int .u8 t4, .int .u8 t5, .int .u8 f0, .int .u8 f1, .int .u8 f2, .int .u8 f3, .int .u8 f4, .int .u8 f5, .int .i64 kd, .slice a0 len0 cap0]] w (fun e w' => e = .returned (.bool true) ∧ Only [] w w') := by
  by_cases hb : 2000 < len0
  · exact EtherEncodesBig w (fun _ => 0) (fun _ => ⟨by decide, by decide⟩) a0 len0 cap0 hb t0 t1 t2 t3 t4 t5 f0 f1 f2 f3 f4 f5 kd ht0 ht1 ht2 ht3 ht4 ht5 hf0 hf1 hf2 hf3 hf4 hf5 hkd
  have hkk : (kd < 1536 ∨ 65535 < kd) ∨ (1536 ≤ kd ∧ kd ≤ 65535) := by omega
  cases a0 with
  | none =>
    rcases h0 with ⟨_, rfl, rfl, _⟩ | ⟨x, hx, _⟩
    · rcases hkk with hk | hk
      · exact EtherEncodesNilBad w (fun _ => 0) (fun _ => ⟨by decide, by decide⟩) t0 t1 t2 t3 t4 t5 f0 f1 f2 f3 f4 f5 kd ht0 ht1 ht2 ht3 ht4 ht5 hf0 hf1 hf2 hf3 hf4 hf5 hkd hk
      · exact EtherEncodesNil w (fun _ => 0) (fun _ => ⟨by decide, by decide⟩) t0 t1 t2 t3 t4 t5 f0 f1 f2 f3 f4 f5 kd ht0 ht1 ht2 ht3 ht4 ht5 hf0 hf1 hf2 hf3 hf4 hf5 hkd hk
    · cases hx
  | some A =>
    by_cases hz : len0 = 0
    · subst hz
      rcases hkk with hk | hk
      · exact EtherEncodesEmpBad w (fun _ => 0) (fun _ => ⟨by decide, by decide⟩) A cap0 (isRow_spot h0) t0 t1 t2 t3 t4 t5 f0 f1 f2 f3 f4 f5 kd ht0 ht1 ht2 ht3 ht4 ht5 hf0 hf1 hf2 hf3 hf4 hf5 hkd hk
      · exact EtherEncodesEmp w (fun _ => 0) (fun _ => ⟨by decide, by decide⟩) A cap0 (isRow_spot h0) t0 t1 t2 t3 t4 t5 f0 f1 f2 f3 f4 f5 kd ht0 ht1 ht2 ht3 ht4 ht5 hf0 hf1 hf2 hf3 hf4 hf5 hkd hk
    · have hw := rowIn_of (R := rowR 1048576 z0) h0 (by omega) (fun j hj => by unfold rowR; rw [Nat.add_sub_cancel_left])
      rcases hkk with hk | hk
      · exact EtherEncodesBad w (rowR 1048576 z0) (rowR_bd (isRow_wf h0)) A len0 cap0 hw (by omega) (by omega) t0 t1 t2 t3 t4 t5 f0 f1 f2 f3 f4 f5 kd ht0 ht1 ht2 ht3 ht4 ht5 hf0 hf1 hf2 hf3 hf4 hf5 hkd hk
      by_cases hx : len0 < 46
      · exact EtherEncodesFix w (rowR 1048576 z0) (rowR_bd (isRow_wf h0)) A len0 cap0 hw (by omega) (by omega) hx t0 t1 t2 t3 t4 t5 f0 f1 f2 f3 f4 f5 kd ht0 ht1 ht2 ht3 ht4 ht5 hf0 hf1 hf2 hf3 hf4 hf5 hkd hk
      have hb0 : ∀ j, 0 ≤ headR z0 [t0, t1, t2, t3, t4, t5, f0, f1, f2, f3, f4, f5, kd / 256, kd % 256] j ∧ headR z0 [t0, t1, t2, t3, t4, t5, f0, f1, f2, f3, f4, f5, kd / 256, kd % 256] j ≤ 255 := headR_bd (isRow_wf h0) (by
        intro n hn
        simp only [List.mem_cons, List.not_mem_nil, or_false] at hn
        rcases hn with rfl | rfl | rfl | rfl | rfl | rfl | rfl | rfl | rfl | rfl | rfl | rfl | rfl | rfl <;> omega)
      have hw2 := rowIn_of (a := 1048576) (R := headR z0 [t0, t1, t2, t3, t4, t5, f0, f1, f2, f3, f4, f5, kd / 256, kd % 256]) h0 (by omega) (fun j hj => by unfold headR; rw [if_pos (by omega), Nat.add_sub_cancel_left])
      exact EtherEncodesRow w (headR z0 [t0, t1, t2, t3, t4, t5, f0, f1, f2, f3, f4, f5, kd / 256, kd % 256]) hb0 A len0 cap0 hw2 (by omega) (by omega) (by omega) kd hkd hk ⟨rfl, rfl⟩
end Go.Proofs.Ytiihhngddmboaaa.ev
