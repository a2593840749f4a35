/-
  HostOfNothing, by a run of each path over rows of bytes that are not looked into. Conditions: none.
-/
import Derived.Test.YtjehddcgbgfhdaaGreatEvRl
import Derived.Test.YtjehddcgbgfhdaaGreatEvP19
import Derived.Test.YtjehddcgbgfhdaaGreatEvV
import Derived.Test.YtjehddcgbgfhdaaGreatEvBd
import Derived.Test.YtjehddcgbgfhdaaGreatBeq
import Derived.KernelRfl
import Derived.DeepKeys
namespace Go.Proofs.YtjehddcgbgfhdaaGreat.ev
set_option maxRecDepth 1000000
set_option linter.unusedVariables false
set_option linter.unusedSimpArgs false
open Go.ChangeShapes Go.WideShapes Go.ChangeAt Go.RowKit Go.IntWalk Go.Lib
theorem ac [Env] {P : Program} {e : Ent} {l : List Ent} (h : EntOK P e) (k : ∀ x ∈ l, EntOK P x) : ∀ x ∈ e :: l, EntOK P x := allECons h k
theorem beqC : BeqC Tryz.prog 61 := ⟨hasBody_of (by kernel_rfl), fun w A B n m c d x y hx hy hbx hby => beq.bytesEqual w A B n m c d x y hx hy hbx hby⟩
abbrev hnOneV (R : Nat → Int) (hR : ∀ j, 0 ≤ R j ∧ R j ≤ 255) (D0 B0 : Option Addr) (dn dc bn bc : Nat) (df dp dt dq now : Int) : Env := envR [.slice B0 bn bc, .int .u32 df, .int .i64 dp, .int .u32 dt, .int .i64 dq, .slice D0 dn dc, .int .i64 now, .int .i64 (bn : Int), .int .i64 (dn : Int)] R hR
abbrev hnOneB (D0 B0 : Option Addr) (dn dc bn bc : Nat) (df dp dt dq now : Int) : Prop := dn ≤ 140737488355328 ∧ bn ≤ 140737488355328
def hnOnes0 : Ent := .bin .gtr (.chan (some 7)) (.int .i64 30000) (.bool false)
theorem hnOnes0_ok (R : Nat → Int) (hR : ∀ j, 0 ≤ R j ∧ R j ≤ 255) (D0 B0 : Option Addr) (dn dc bn bc : Nat) (df dp dt dq now : Int) (hb : hnOneB D0 B0 dn dc bn bc df dp dt dq now) (hc : ¬ ((bn : Int) > 30000)) : @EntOK (hnOneV R hR D0 B0 dn dc bn bc df dp dt dq now) Tryz.prog hnOnes0 := by
  letI : Env := hnOneV R hR D0 B0 dn dc bn bc df dp dt dq now
  exact entCmp (k := .i64) (a := (bn : Int)) (b := 30000) rfl rfl (by show some (decide (((bn : Int) : Int) > 30000)) = some false; rw [decide_eq_false (by first | omega | (simp only [sumVal, oct.sumF, oct.F, oct.ws]; omega))])
def hnOnes1 : Ent := .bin .gtr (.chan (some 8)) (.int .i64 30000) (.bool false)
theorem hnOnes1_ok (R : Nat → Int) (hR : ∀ j, 0 ≤ R j ∧ R j ≤ 255) (D0 B0 : Option Addr) (dn dc bn bc : Nat) (df dp dt dq now : Int) (hb : hnOneB D0 B0 dn dc bn bc df dp dt dq now) (hc : ¬ ((dn : Int) > 30000)) : @EntOK (hnOneV R hR D0 B0 dn dc bn bc df dp dt dq now) Tryz.prog hnOnes1 := by
  letI : Env := hnOneV R hR D0 B0 dn dc bn bc df dp dt dq now
  exact entCmp (k := .i64) (a := (dn : Int)) (b := 30000) rfl rfl (by show some (decide (((dn : Int) : Int) > 30000)) = some false; rw [decide_eq_false (by first | omega | (simp only [sumVal, oct.sumF, oct.F, oct.ws]; omega))])
def hnOnes2 : Ent := .bin .gtr (.chan (some 7)) (.int .i64 30000) (.bool true)
theorem hnOnes2_ok (R : Nat → Int) (hR : ∀ j, 0 ≤ R j ∧ R j ≤ 255) (D0 B0 : Option Addr) (dn dc bn bc : Nat) (df dp dt dq now : Int) (hb : hnOneB D0 B0 dn dc bn bc df dp dt dq now) (hc : (bn : Int) > 30000) : @EntOK (hnOneV R hR D0 B0 dn dc bn bc df dp dt dq now) Tryz.prog hnOnes2 := by
  letI : Env := hnOneV R hR D0 B0 dn dc bn bc df dp dt dq now
  exact entCmp (k := .i64) (a := (bn : Int)) (b := 30000) rfl rfl (by show some (decide (((bn : Int) : Int) > 30000)) = some true; rw [decide_eq_true (by first | omega | (simp only [sumVal, oct.sumF, oct.F, oct.ws]; omega))])
def hnOnes3 : Ent := .bin .gtr (.chan (some 8)) (.int .i64 30000) (.bool true)
theorem hnOnes3_ok (R : Nat → Int) (hR : ∀ j, 0 ≤ R j ∧ R j ≤ 255) (D0 B0 : Option Addr) (dn dc bn bc : Nat) (df dp dt dq now : Int) (hb : hnOneB D0 B0 dn dc bn bc df dp dt dq now) (hc : (dn : Int) > 30000) : @EntOK (hnOneV R hR D0 B0 dn dc bn bc df dp dt dq now) Tryz.prog hnOnes3 := by
  letI : Env := hnOneV R hR D0 B0 dn dc bn bc df dp dt dq now
  exact entCmp (k := .i64) (a := (dn : Int)) (b := 30000) rfl rfl (by show some (decide (((dn : Int) : Int) > 30000)) = some true; rw [decide_eq_true (by first | omega | (simp only [sumVal, oct.sumF, oct.F, oct.ws]; omega))])
abbrev hnOne0K (R : Nat → Int) (D0 B0 : Option Addr) (dn dc bn bc : Nat) (df dp dt dq now : Int) : Prop := hnOneB D0 B0 dn dc bn bc df dp dt dq now ∧ (¬ ((bn : Int) > 30000)) ∧ (¬ ((dn : Int) > 30000)) ∧ True
def hnOne0e0 : Ent := .len false (.chan (some 1000)) (.chan (some 7))
theorem hnOne0e0_ok (R : Nat → Int) (hR : ∀ j, 0 ≤ R j ∧ R j ≤ 255) (D0 B0 : Option Addr) (dn dc bn bc : Nat) (df dp dt dq now : Int) (hk : hnOne0K R D0 B0 dn dc bn bc df dp dt dq now) : @EntOK (hnOneV R hR D0 B0 dn dc bn bc df dp dt dq now) Tryz.prog hnOne0e0 := by
  letI : Env := (hnOneV R hR D0 B0 dn dc bn bc df dp dt dq now)
  obtain ⟨hb, k0, k1, _⟩ := hk; exact entLen (i := 1000) (j := 7) rfl rfl
def hnOne0e2 : Ent := .len false (.chan (some 1005)) (.chan (some 8))
theorem hnOne0e2_ok (R : Nat → Int) (hR : ∀ j, 0 ≤ R j ∧ R j ≤ 255) (D0 B0 : Option Addr) (dn dc bn bc : Nat) (df dp dt dq now : Int) (hk : hnOne0K R D0 B0 dn dc bn bc df dp dt dq now) : @EntOK (hnOneV R hR D0 B0 dn dc bn bc df dp dt dq now) Tryz.prog hnOne0e2 := by
  letI : Env := (hnOneV R hR D0 B0 dn dc bn bc df dp dt dq now)
  obtain ⟨hb, k0, k1, _⟩ := hk; exact entLen (i := 1005) (j := 8) rfl rfl
abbrev hnOne0L : List Ent := [hnOne0e0, hnOnes0, hnOne0e2, hnOnes1]
set_option maxHeartbeats 4000000 in
theorem hnOne0 (w : World) (R : Nat → Int) (hR : ∀ j, 0 ≤ R j ∧ R j ≤ 255) (D0 B0 : Option Addr) (dn dc bn bc : Nat) (hd : dn ≤ 140737488355328) (hbn : bn ≤ 140737488355328) (df dp dt dq now : Int) (hdf : 0 ≤ df ∧ df ≤ 4294967295) (hdp : (-9223372036854775808) ≤ dp ∧ dp ≤ 9223372036854775807) (hdt : 0 ≤ dt ∧ dt ≤ 4294967295) (hdq : (-9223372036854775808) ≤ dq ∧ dq ≤ 9223372036854775807) (hnow : (-9223372036854775808) ≤ now ∧ now ≤ 9223372036854775807) (k0 : ¬ ((bn : Int) > 30000)) (k1 : ¬ ((dn : Int) > 30000)) : Calls Tryz.prog 3 #[.slice B0 bn bc, .agg #[.int .u32 df, .int .i64 dp, .int .u32 dt, .int .i64 dq, .slice D0 dn dc], .int .i64 now] w (fun e w' => e = .returned (.bool true) ∧ Only [] w w') := by
  letI : Env := (hnOneV R hR D0 B0 dn dc bn bc df dp dt dq now)
  have hb : hnOneB D0 B0 dn dc bn bc df dp dt dq now := ⟨hd, hbn⟩
  have hk : hnOne0K R D0 B0 dn dc bn bc df dp dt dq now := ⟨hb, k0, k1, trivial⟩
  have hents : ∀ e ∈ (hnOne0L : List Ent), EntOK Tryz.prog e := (ac (hnOne0e0_ok R hR D0 B0 dn dc bn bc df dp dt dq now hk) (ac (hnOnes0_ok R hR D0 B0 dn dc bn bc df dp dt dq now hb k0) (ac (hnOne0e2_ok R hR D0 B0 dn dc bn bc df dp dt dq now hk) (ac (hnOnes1_ok R hR D0 B0 dn dc bn bc df dp dt dq now hb k1) allENil))))
  have hsp : SpOK Tryz.prog (spTwo (spBeq 61 hnOne0L) (spKnown 18)) := (spTwo_ok (spBeq_ok beqC hents) (spKnown_ok knownBody known))
  refine lawR (tab := tabG Tryz.prog hnOne0L) (sp := (spTwo (spBeq 61 hnOne0L) (spKnown 18))) hsp (tabG_ok hents) (f := 300) (args := [.chan (some 1000), .agg #[.chan (some 1), .chan (some 2), .chan (some 3), .chan (some 4), .chan (some 1005)], .chan (some 6)]) (args' := [.slice B0 bn bc, .agg #[.int .u32 df, .int .i64 dp, .int .u32 dt, .int .i64 dq, .slice D0 dn dc], .int .i64 now]) (c0 := 0) (h0 := .lf) (β0 := fun _ => none) (w := w) (by kernel_rfl) (Sim.nothing Tryz.prog w.heap.size w) (fun i hi => ?_) ?_
  · rfl
  · exact (PW.cons (.opq 1000 rfl (fun b h => by cases h)) (PW.cons (PW.agg (PW.cons (.opq 1 rfl (fun b h => by cases h)) (PW.cons (.opq 2 rfl (fun b h => by cases h)) (PW.cons (.opq 3 rfl (fun b h => by cases h)) (PW.cons (.opq 4 rfl (fun b h => by cases h)) (PW.cons (.opq 1005 rfl (fun b h => by cases h)) (PW.nil _))))))) (PW.cons (.opq 6 rfl (fun b h => by cases h)) (PW.nil _))))
abbrev hnOne1K (R : Nat → Int) (D0 B0 : Option Addr) (dn dc bn bc : Nat) (df dp dt dq now : Int) : Prop := hnOneB D0 B0 dn dc bn bc df dp dt dq now ∧ ((bn : Int) > 30000) ∧ True
def hnOne1e0 : Ent := .len false (.chan (some 1000)) (.chan (some 7))
theorem hnOne1e0_ok (R : Nat → Int) (hR : ∀ j, 0 ≤ R j ∧ R j ≤ 255) (D0 B0 : Option Addr) (dn dc bn bc : Nat) (df dp dt dq now : Int) (hk : hnOne1K R D0 B0 dn dc bn bc df dp dt dq now) : @EntOK (hnOneV R hR D0 B0 dn dc bn bc df dp dt dq now) Tryz.prog hnOne1e0 := by
  letI : Env := (hnOneV R hR D0 B0 dn dc bn bc df dp dt dq now)
  obtain ⟨hb, k0, _⟩ := hk; exact entLen (i := 1000) (j := 7) rfl rfl
abbrev hnOne1L : List Ent := [hnOne1e0, hnOnes2]
set_option maxHeartbeats 4000000 in
theorem hnOne1 (w : World) (R : Nat → Int) (hR : ∀ j, 0 ≤ R j ∧ R j ≤ 255) (D0 B0 : Option Addr) (dn dc bn bc : Nat) (hd : dn ≤ 140737488355328) (hbn : bn ≤ 140737488355328) (df dp dt dq now : Int) (hdf : 0 ≤ df ∧ df ≤ 4294967295) (hdp : (-9223372036854775808) ≤ dp ∧ dp ≤ 9223372036854775807) (hdt : 0 ≤ dt ∧ dt ≤ 4294967295) (hdq : (-9223372036854775808) ≤ dq ∧ dq ≤ 9223372036854775807) (hnow : (-9223372036854775808) ≤ now ∧ now ≤ 9223372036854775807) (k0 : (bn : Int) > 30000) : Calls Tryz.prog 3 #[.slice B0 bn bc, .agg #[.int .u32 df, .int .i64 dp, .int .u32 dt, .int .i64 dq, .slice D0 dn dc], .int .i64 now] w (fun e w' => e = .returned (.bool true) ∧ Only [] w w') := by
  letI : Env := (hnOneV R hR D0 B0 dn dc bn bc df dp dt dq now)
  have hb : hnOneB D0 B0 dn dc bn bc df dp dt dq now := ⟨hd, hbn⟩
  have hk : hnOne1K R D0 B0 dn dc bn bc df dp dt dq now := ⟨hb, k0, trivial⟩
  have hents : ∀ e ∈ (hnOne1L : List Ent), EntOK Tryz.prog e := (ac (hnOne1e0_ok R hR D0 B0 dn dc bn bc df dp dt dq now hk) (ac (hnOnes2_ok R hR D0 B0 dn dc bn bc df dp dt dq now hb k0) allENil))
  have hsp : SpOK Tryz.prog (spTwo (spBeq 61 hnOne1L) (spKnown 18)) := (spTwo_ok (spBeq_ok beqC hents) (spKnown_ok knownBody known))
  refine lawR (tab := tabG Tryz.prog hnOne1L) (sp := (spTwo (spBeq 61 hnOne1L) (spKnown 18))) hsp (tabG_ok hents) (f := 300) (args := [.chan (some 1000), .agg #[.chan (some 1), .chan (some 2), .chan (some 3), .chan (some 4), .chan (some 1005)], .chan (some 6)]) (args' := [.slice B0 bn bc, .agg #[.int .u32 df, .int .i64 dp, .int .u32 dt, .int .i64 dq, .slice D0 dn dc], .int .i64 now]) (c0 := 0) (h0 := .lf) (β0 := fun _ => none) (w := w) (by kernel_rfl) (Sim.nothing Tryz.prog w.heap.size w) (fun i hi => ?_) ?_
  · rfl
  · exact (PW.cons (.opq 1000 rfl (fun b h => by cases h)) (PW.cons (PW.agg (PW.cons (.opq 1 rfl (fun b h => by cases h)) (PW.cons (.opq 2 rfl (fun b h => by cases h)) (PW.cons (.opq 3 rfl (fun b h => by cases h)) (PW.cons (.opq 4 rfl (fun b h => by cases h)) (PW.cons (.opq 1005 rfl (fun b h => by cases h)) (PW.nil _))))))) (PW.cons (.opq 6 rfl (fun b h => by cases h)) (PW.nil _))))
abbrev hnOne2K (R : Nat → Int) (D0 B0 : Option Addr) (dn dc bn bc : Nat) (df dp dt dq now : Int) : Prop := hnOneB D0 B0 dn dc bn bc df dp dt dq now ∧ (¬ ((bn : Int) > 30000)) ∧ ((dn : Int) > 30000) ∧ True
def hnOne2e0 : Ent := .len false (.chan (some 1000)) (.chan (some 7))
theorem hnOne2e0_ok (R : Nat → Int) (hR : ∀ j, 0 ≤ R j ∧ R j ≤ 255) (D0 B0 : Option Addr) (dn dc bn bc : Nat) (df dp dt dq now : Int) (hk : hnOne2K R D0 B0 dn dc bn bc df dp dt dq now) : @EntOK (hnOneV R hR D0 B0 dn dc bn bc df dp dt dq now) Tryz.prog hnOne2e0 := by
  letI : Env := (hnOneV R hR D0 B0 dn dc bn bc df dp dt dq now)
  obtain ⟨hb, k0, k1, _⟩ := hk; exact entLen (i := 1000) (j := 7) rfl rfl
def hnOne2e2 : Ent := .len false (.chan (some 1005)) (.chan (some 8))
theorem hnOne2e2_ok (R : Nat → Int) (hR : ∀ j, 0 ≤ R j ∧ R j ≤ 255) (D0 B0 : Option Addr) (dn dc bn bc : Nat) (df dp dt dq now : Int) (hk : hnOne2K R D0 B0 dn dc bn bc df dp dt dq now) : @EntOK (hnOneV R hR D0 B0 dn dc bn bc df dp dt dq now) Tryz.prog hnOne2e2 := by
  letI : Env := (hnOneV R hR D0 B0 dn dc bn bc df dp dt dq now)
  obtain ⟨hb, k0, k1, _⟩ := hk; exact entLen (i := 1005) (j := 8) rfl rfl
abbrev hnOne2L : List Ent := [hnOne2e0, hnOnes0, hnOne2e2, hnOnes3]
set_option maxHeartbeats 4000000 in
theorem hnOne2 (w : World) (R : Nat → Int) (hR : ∀ j, 0 ≤ R j ∧ R j ≤ 255) (D0 B0 : Option Addr) (dn dc bn bc : Nat) (hd : dn ≤ 140737488355328) (hbn : bn ≤ 140737488355328) (df dp dt dq now : Int) (hdf : 0 ≤ df ∧ df ≤ 4294967295) (hdp : (-9223372036854775808) ≤ dp ∧ dp ≤ 9223372036854775807) (hdt : 0 ≤ dt ∧ dt ≤ 4294967295) (hdq : (-9223372036854775808) ≤ dq ∧ dq ≤ 9223372036854775807) (hnow : (-9223372036854775808) ≤ now ∧ now ≤ 9223372036854775807) (k0 : ¬ ((bn : Int) > 30000)) (k1 : (dn : Int) > 30000) : Calls Tryz.prog 3 #[.slice B0 bn bc, .agg #[.int .u32 df, .int .i64 dp, .int .u32 dt, .int .i64 dq, .slice D0 dn dc], .int .i64 now] w (fun e w' => e = .returned (.bool true) ∧ Only [] w w') := by
  letI : Env := (hnOneV R hR D0 B0 dn dc bn bc df dp dt dq now)
  have hb : hnOneB D0 B0 dn dc bn bc df dp dt dq now := ⟨hd, hbn⟩
  have hk : hnOne2K R D0 B0 dn dc bn bc df dp dt dq now := ⟨hb, k0, k1, trivial⟩
  have hents : ∀ e ∈ (hnOne2L : List Ent), EntOK Tryz.prog e := (ac (hnOne2e0_ok R hR D0 B0 dn dc bn bc df dp dt dq now hk) (ac (hnOnes0_ok R hR D0 B0 dn dc bn bc df dp dt dq now hb k0) (ac (hnOne2e2_ok R hR D0 B0 dn dc bn bc df dp dt dq now hk) (ac (hnOnes3_ok R hR D0 B0 dn dc bn bc df dp dt dq now hb k1) allENil))))
  have hsp : SpOK Tryz.prog (spTwo (spBeq 61 hnOne2L) (spKnown 18)) := (spTwo_ok (spBeq_ok beqC hents) (spKnown_ok knownBody known))
  refine lawR (tab := tabG Tryz.prog hnOne2L) (sp := (spTwo (spBeq 61 hnOne2L) (spKnown 18))) hsp (tabG_ok hents) (f := 300) (args := [.chan (some 1000), .agg #[.chan (some 1), .chan (some 2), .chan (some 3), .chan (some 4), .chan (some 1005)], .chan (some 6)]) (args' := [.slice B0 bn bc, .agg #[.int .u32 df, .int .i64 dp, .int .u32 dt, .int .i64 dq, .slice D0 dn dc], .int .i64 now]) (c0 := 0) (h0 := .lf) (β0 := fun _ => none) (w := w) (by kernel_rfl) (Sim.nothing Tryz.prog w.heap.size w) (fun i hi => ?_) ?_
  · rfl
  · exact (PW.cons (.opq 1000 rfl (fun b h => by cases h)) (PW.cons (PW.agg (PW.cons (.opq 1 rfl (fun b h => by cases h)) (PW.cons (.opq 2 rfl (fun b h => by cases h)) (PW.cons (.opq 3 rfl (fun b h => by cases h)) (PW.cons (.opq 4 rfl (fun b h => by cases h)) (PW.cons (.opq 1005 rfl (fun b h => by cases h)) (PW.nil _))))))) (PW.cons (.opq 6 rfl (fun b h => by cases h)) (PW.nil _))))
theorem HostOfNothingOne (w : World) (R : Nat → Int) (hR : ∀ j, 0 ≤ R j ∧ R j ≤ 255) (D0 B0 : Option Addr) (dn dc bn bc : Nat) (hd : dn ≤ 140737488355328) (hbn : bn ≤ 140737488355328) (df dp dt dq now : Int) (hdf : 0 ≤ df ∧ df ≤ 4294967295) (hdp : (-9223372036854775808) ≤ dp ∧ dp ≤ 9223372036854775807) (hdt : 0 ≤ dt ∧ dt ≤ 4294967295) (hdq : (-9223372036854775808) ≤ dq ∧ dq ≤ 9223372036854775807) (hnow : (-9223372036854775808) ≤ now ∧ now ≤ 9223372036854775807) : Calls Tryz.prog 3 #[.slice B0 bn bc, .agg #[.int .u32 df, .int .i64 dp, .int .u32 dt, .int .i64 dq, .slice D0 dn dc], .int .i64 now] w (fun e w' => e = .returned (.bool true) ∧ Only [] w w') := by
  by_cases h1 : (bn : Int) > 30000
  ·
    exact hnOne1 w R hR D0 B0 dn dc bn bc hd hbn df dp dt dq now hdf hdp hdt hdq hnow h1
  ·
    by_cases h2 : (dn : Int) > 30000
    ·
      exact hnOne2 w R hR D0 B0 dn dc bn bc hd hbn df dp dt dq now hdf hdp hdt hdq hnow h1 h2
    ·
      exact hnOne0 w R hR D0 B0 dn dc bn bc hd hbn df dp dt dq now hdf hdp hdt hdq hnow h1 h2
end Go.Proofs.YtjehddcgbgfhdaaGreat.ev
