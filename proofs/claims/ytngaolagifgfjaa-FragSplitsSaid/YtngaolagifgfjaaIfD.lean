/-
  Chapter 6 (ipv4): a packet is written, by a walk of each text. Conditions: none but those typed.
-/
import Derived.Test.YtngaolagifgfjaaIfC
import Derived.Test.YtngaolagifgfjaaWrt
import Derived.Test.YtngaolagifgfjaaRga
import Derived.Test.YtngaolagifgfjaaSum6
import Derived.Test.YtngaolagifgfjaaHlp7
import Derived.Test.YtngaolagifgfjaaCpy
namespace Go.Proofs.Ytngaolagifgfjaa.ip
set_option linter.unusedVariables false
set_option linter.unusedSimpArgs false
open Go.ChangeShapes Go.WideShapes Go.ChangeAt Go.RowKit Go.IntWalk Go.Lib
/-- Two and four bytes of a number. -/
def b2 (x : Int) : List Int := [x / 256 % 256, x % 256]
def b4 (x : Int) : List Int := [x / 16777216 % 256, x / 65536 % 256, x / 256 % 256, x % 256]
/-- A header with a sum s. -/
def hdr (sv pid off lf pr : Int) (wh mo : Bool) (fr to : Int) (o : List Int) (dn : Nat) (s : Int) : List Int :=
  [(64 + (hl o.length : Nat) / 4 : Int) % 256, sv % 256] ++ b2 ((hl o.length : Nat) + (dn : Int)) ++ b2 pid ++ b2 (pbs off wh mo) ++ [lf % 256] ++ [pr % 256] ++ b2 s ++ b4 fr ++ b4 to ++ o ++ List.replicate (hl o.length - 20 - o.length) 0
theorem hdr_len (sv pid off lf pr : Int) (wh mo : Bool) (fr to : Int) (o : List Int) (dn : Nat) (s : Int) : (hdr sv pid off lf pr wh mo fr to o dn s).length = hl o.length := by
  have := hl_bd o.length
  simp [hdr, b2, b4]; omega
def sumH (sv pid off lf pr : Int) (wh mo : Bool) (fr to : Int) (o : List Int) (dn : Nat) : Int := oct.sumF (hdr sv pid off lf pr wh mo fr to o dn 0)
/-- What Encode writes. -/
def encP (sv pid off lf pr : Int) (wh mo : Bool) (fr to : Int) (o d : List Int) : List Int := hdr sv pid off lf pr wh mo fr to o d.length (sumH sv pid off lf pr wh mo fr to o d.length) ++ d
set_option maxRecDepth 100000 in
set_option maxHeartbeats 8000000 in
theorem header1 (w : World) (sv pid off lf pr : Int) (wh mo : Bool) (fr to : Int) (oA : Option Addr) (on oc : Nat) (dA : Option Addr) (dn dc : Nat) (s : Int) (o : List Int) (ho : Rd .u8 w oA on o) (hoc : oA = none → oc = 0) (hn : on ≤ 40) (hdn : dn ≤ 100000) (ho0 : 0 ≤ off) (ho1 : off ≤ 65528) :
    Calls Try.prog 35 #[.agg #[.int .i64 sv, .int .i64 pid, .bool wh, .bool mo, .int .i64 off, .int .i64 lf, .int .i64 pr, .int .u32 fr, .int .u32 to, .slice oA on oc, .slice dA dn dc], .int .i64 s] w fun x w' => ∃ v, x = .returned v ∧ Own .u8 5 w' w.heap.size v (hdr sv pid off lf pr wh mo fr to o dn s) ∧ Only [] w w' := by
  have HO := hid ho; have HOC := hid hoc; have HOLen := hid ho.len
  clear ho hoc
  have OB : Hid (Ob (w.alloc (.cells #[.int .i64 sv, .int .i64 pid, .bool wh, .bool mo, .int .i64 off, .int .i64 lf, .int .i64 pr, .int .u32 fr, .int .u32 to, .slice oA on oc, .slice dA dn dc] 26)) w.heap.size 26 #[.int .i64 sv, .int .i64 pid, .bool wh, .bool mo, .int .i64 off, .int .i64 lf, .int .i64 pr, .int .u32 fr, .int .u32 to, .slice oA on oc, .slice dA dn dc]) := hid (Ob.new _ _ _)
  have Q0 : Hid (Only [] w (w.alloc (.cells #[.int .i64 sv, .int .i64 pid, .bool wh, .bool mo, .int .i64 off, .int .i64 lf, .int .i64 pr, .int .u32 fr, .int .u32 to, .slice oA on oc, .slice dA dn dc] 26))) := hid ((Only.refl [] w).alloc _)
  have hhb := hl_bd on
  have HHR : Hid (hdr sv pid off lf pr wh mo fr to o dn s = [(64 + (hl on : Nat) / 4 : Int) % 256, sv % 256] ++ b2 ((hl on : Nat) + (dn : Int)) ++ b2 pid ++ b2 (pbs off wh mo) ++ [lf % 256] ++ [pr % 256] ++ b2 s ++ b4 fr ++ b4 to ++ o ++ List.replicate (hl on - 20 - on) 0) := hid (by unfold hdr; rw [HOLen.out])
  have HHV : Hid ((hl on : Int) / 4 ≤ 15 ∧ 5 ≤ (hl on : Int) / 4) := hid (by omega)
  have k0 := OB.out.cell 0; have k1 := OB.out.cell 1; have k2 := OB.out.cell 2; have k3 := OB.out.cell 3; have k4 := OB.out.cell 4; have k5 := OB.out.cell 5; have k6 := OB.out.cell 6; have k7 := OB.out.cell 7; have k8 := OB.out.cell 8; have k9 := OB.out.cell 9; have k10 := OB.out.cell 10
  go_enter Try.func35, Try.ntmps35
  go_wp2_with fail
  refine (head1 _ sv pid off lf pr wh mo fr to oA on oc dA dn dc (by omega)).mono ?_
  rintro x w1 ⟨rfl, o1⟩
  generalize hhe : hl on = hh at *
  have HHE := hid hhe; clear hhe
  have OB := hid (OB.out.only o1 (by simp)); have Q0 := hid (Q0.out.trans o1); clear o1 k0 k1 k2 k3 k4 k5 k6 k7 k8 k9 k10
  have k0 := OB.out.cell 0; have k1 := OB.out.cell 1; have k2 := OB.out.cell 2; have k3 := OB.out.cell 3; have k4 := OB.out.cell 4; have k5 := OB.out.cell 5; have k6 := OB.out.cell 6; have k7 := OB.out.cell 7; have k8 := OB.out.cell 8; have k9 := OB.out.cell 9; have k10 := OB.out.cell 10
  have hgs : w.heap.size < w1.heap.size := OB.out.lt
  have ORB : bits .or .i64 64 ((hh : Int) / 4) = 64 + (hh : Int) / 4 := by
    have h := i64_or_mul 1 ((hh : Int) / 4) 6 64 rfl (by omega) (by omega) (by omega) (by omega)
    simpa using h
  have MK : ∀ W, (Instr.makeSlice 24 (.int .i64 ((hh : Int) - 20 - on)) (.int .i64 ((hh : Int) - 20 - on))).run Try.prog W = .ok (.slice (some ⟨W.heap.size, 0, none⟩) (hh - 20 - on) (hh - 20 - on)) (W.alloc (.cells (rowV .u8 (List.replicate (hh - 20 - on) 0)) 5)) := fun W => by
    have h := run_mkB W (hh - 20 - on) (by omega)
    rw [show ((hh - 20 - on : Nat) : Int) = (hh : Int) - 20 - on from by omega] at h
    exact h
  have W : Hid (wrt.Wr (w1.alloc (.cells #[.slice none 0 0] 93)) w1.heap.size w1.heap.size (.slice none 0 0) []) := hid ⟨Ob.new _ _ _, Own.nil _ _ _ _, Nat.le_refl _⟩
  have B : Hid (Below w1.heap.size w1 (w1.alloc (.cells #[.slice none 0 0] 93))) := hid ((Below.refl _ _).alloc (Nat.le_refl _) _)
  have OB := hid (OB.out.alloc (.cells #[.slice none 0 0] 93))
  clear k0 k1 k2 k3 k4 k5 k6 k7 k8 k9 k10
  have k0 := OB.out.cell 0; have k1 := OB.out.cell 1; have k2 := OB.out.cell 2; have k3 := OB.out.cell 3; have k4 := OB.out.cell 4; have k5 := OB.out.cell 5; have k6 := OB.out.cell 6; have k7 := OB.out.cell 7; have k8 := OB.out.cell 8; have k9 := OB.out.cell 9; have k10 := OB.out.cell 10
  go_wp2_with fail
  refine (wrt.byte1 _ _ _ _ _ (64 + (hh : Nat) / 4 : Int) W.out (by first | (simp; done) | (simp; omega) | (simp [HOLen.out]; omega))).mono ?_
  rintro x w10 ⟨rfl, b10, v10, h10⟩
  have OB := hid (OB.out.below b10 hgs); have B := hid (B.out.trans b10); have W := hid h10; clear b10 h10 k0 k1 k2 k3 k4 k5 k6 k7 k8 k9 k10
  have k0 := OB.out.cell 0; have k1 := OB.out.cell 1; have k2 := OB.out.cell 2; have k3 := OB.out.cell 3; have k4 := OB.out.cell 4; have k5 := OB.out.cell 5; have k6 := OB.out.cell 6; have k7 := OB.out.cell 7; have k8 := OB.out.cell 8; have k9 := OB.out.cell 9; have k10 := OB.out.cell 10
  go_wp2_with fail
  refine (wrt.byte1 _ _ _ _ _ sv W.out (by first | (simp; done) | (simp; omega) | (simp [HOLen.out]; omega))).mono ?_
  rintro x w11 ⟨rfl, b11, v11, h11⟩
  have OB := hid (OB.out.below b11 hgs); have B := hid (B.out.trans b11); have W := hid h11; clear b11 h11 k0 k1 k2 k3 k4 k5 k6 k7 k8 k9 k10
  have k0 := OB.out.cell 0; have k1 := OB.out.cell 1; have k2 := OB.out.cell 2; have k3 := OB.out.cell 3; have k4 := OB.out.cell 4; have k5 := OB.out.cell 5; have k6 := OB.out.cell 6; have k7 := OB.out.cell 7; have k8 := OB.out.cell 8; have k9 := OB.out.cell 9; have k10 := OB.out.cell 10
  go_wp2_with fail
  refine (wrt.two1 _ _ _ _ _ ((hh : Nat) + (dn : Int)) W.out (by first | (simp; done) | (simp; omega) | (simp [HOLen.out]; omega))).mono ?_
  rintro x w12 ⟨rfl, b12, v12, h12⟩
  have OB := hid (OB.out.below b12 hgs); have B := hid (B.out.trans b12); have W := hid h12; clear b12 h12 k0 k1 k2 k3 k4 k5 k6 k7 k8 k9 k10
  have k0 := OB.out.cell 0; have k1 := OB.out.cell 1; have k2 := OB.out.cell 2; have k3 := OB.out.cell 3; have k4 := OB.out.cell 4; have k5 := OB.out.cell 5; have k6 := OB.out.cell 6; have k7 := OB.out.cell 7; have k8 := OB.out.cell 8; have k9 := OB.out.cell 9; have k10 := OB.out.cell 10
  go_wp2_with fail
  refine (wrt.two1 _ _ _ _ _ pid W.out (by first | (simp; done) | (simp; omega) | (simp [HOLen.out]; omega))).mono ?_
  rintro x w13 ⟨rfl, b13, v13, h13⟩
  have OB := hid (OB.out.below b13 hgs); have B := hid (B.out.trans b13); have W := hid h13; clear b13 h13 k0 k1 k2 k3 k4 k5 k6 k7 k8 k9 k10
  have k0 := OB.out.cell 0; have k1 := OB.out.cell 1; have k2 := OB.out.cell 2; have k3 := OB.out.cell 3; have k4 := OB.out.cell 4; have k5 := OB.out.cell 5; have k6 := OB.out.cell 6; have k7 := OB.out.cell 7; have k8 := OB.out.cell 8; have k9 := OB.out.cell 9; have k10 := OB.out.cell 10
  go_wp2_with fail
  refine (bits1 _ sv pid off lf pr wh mo fr to oA on oc dA dn dc ho0 ho1).mono ?_
  rintro x w14 ⟨rfl, q14⟩
  have OB := hid (OB.out.only q14 (by simp)); have B := hid (B.out.trans (q14.below_nil.mono B.out.size)); have W := hid (W.out.only_nil q14); clear q14 k0 k1 k2 k3 k4 k5 k6 k7 k8 k9 k10
  have k0 := OB.out.cell 0; have k1 := OB.out.cell 1; have k2 := OB.out.cell 2; have k3 := OB.out.cell 3; have k4 := OB.out.cell 4; have k5 := OB.out.cell 5; have k6 := OB.out.cell 6; have k7 := OB.out.cell 7; have k8 := OB.out.cell 8; have k9 := OB.out.cell 9; have k10 := OB.out.cell 10
  go_wp2_with fail
  refine (wrt.two1 _ _ _ _ _ (pbs off wh mo) W.out (by first | (simp; done) | (simp; omega) | (simp [HOLen.out]; omega))).mono ?_
  rintro x w15 ⟨rfl, b15, v15, h15⟩
  have OB := hid (OB.out.below b15 hgs); have B := hid (B.out.trans b15); have W := hid h15; clear b15 h15 k0 k1 k2 k3 k4 k5 k6 k7 k8 k9 k10
  have k0 := OB.out.cell 0; have k1 := OB.out.cell 1; have k2 := OB.out.cell 2; have k3 := OB.out.cell 3; have k4 := OB.out.cell 4; have k5 := OB.out.cell 5; have k6 := OB.out.cell 6; have k7 := OB.out.cell 7; have k8 := OB.out.cell 8; have k9 := OB.out.cell 9; have k10 := OB.out.cell 10
  go_wp2_with fail
  refine (wrt.byte1 _ _ _ _ _ lf W.out (by first | (simp; done) | (simp; omega) | (simp [HOLen.out]; omega))).mono ?_
  rintro x w16 ⟨rfl, b16, v16, h16⟩
  have OB := hid (OB.out.below b16 hgs); have B := hid (B.out.trans b16); have W := hid h16; clear b16 h16 k0 k1 k2 k3 k4 k5 k6 k7 k8 k9 k10
  have k0 := OB.out.cell 0; have k1 := OB.out.cell 1; have k2 := OB.out.cell 2; have k3 := OB.out.cell 3; have k4 := OB.out.cell 4; have k5 := OB.out.cell 5; have k6 := OB.out.cell 6; have k7 := OB.out.cell 7; have k8 := OB.out.cell 8; have k9 := OB.out.cell 9; have k10 := OB.out.cell 10
  go_wp2_with fail
  refine (wrt.byte1 _ _ _ _ _ pr W.out (by first | (simp; done) | (simp; omega) | (simp [HOLen.out]; omega))).mono ?_
  rintro x w17 ⟨rfl, b17, v17, h17⟩
  have OB := hid (OB.out.below b17 hgs); have B := hid (B.out.trans b17); have W := hid h17; clear b17 h17 k0 k1 k2 k3 k4 k5 k6 k7 k8 k9 k10
  have k0 := OB.out.cell 0; have k1 := OB.out.cell 1; have k2 := OB.out.cell 2; have k3 := OB.out.cell 3; have k4 := OB.out.cell 4; have k5 := OB.out.cell 5; have k6 := OB.out.cell 6; have k7 := OB.out.cell 7; have k8 := OB.out.cell 8; have k9 := OB.out.cell 9; have k10 := OB.out.cell 10
  go_wp2_with fail
  refine (wrt.two1 _ _ _ _ _ s W.out (by first | (simp; done) | (simp; omega) | (simp [HOLen.out]; omega))).mono ?_
  rintro x w18 ⟨rfl, b18, v18, h18⟩
  have OB := hid (OB.out.below b18 hgs); have B := hid (B.out.trans b18); have W := hid h18; clear b18 h18 k0 k1 k2 k3 k4 k5 k6 k7 k8 k9 k10
  have k0 := OB.out.cell 0; have k1 := OB.out.cell 1; have k2 := OB.out.cell 2; have k3 := OB.out.cell 3; have k4 := OB.out.cell 4; have k5 := OB.out.cell 5; have k6 := OB.out.cell 6; have k7 := OB.out.cell 7; have k8 := OB.out.cell 8; have k9 := OB.out.cell 9; have k10 := OB.out.cell 10
  go_wp2_with fail
  refine (wrt.four1 _ _ _ _ _ fr W.out (by first | (simp; done) | (simp; omega) | (simp [HOLen.out]; omega))).mono ?_
  rintro x w19 ⟨rfl, b19, v19, h19⟩
  have OB := hid (OB.out.below b19 hgs); have B := hid (B.out.trans b19); have W := hid h19; clear b19 h19 k0 k1 k2 k3 k4 k5 k6 k7 k8 k9 k10
  have k0 := OB.out.cell 0; have k1 := OB.out.cell 1; have k2 := OB.out.cell 2; have k3 := OB.out.cell 3; have k4 := OB.out.cell 4; have k5 := OB.out.cell 5; have k6 := OB.out.cell 6; have k7 := OB.out.cell 7; have k8 := OB.out.cell 8; have k9 := OB.out.cell 9; have k10 := OB.out.cell 10
  go_wp2_with fail
  refine (wrt.four1 _ _ _ _ _ to W.out (by first | (simp; done) | (simp; omega) | (simp [HOLen.out]; omega))).mono ?_
  rintro x w20 ⟨rfl, b20, v20, h20⟩
  have OB := hid (OB.out.below b20 hgs); have B := hid (B.out.trans b20); have W := hid h20; clear b20 h20 k0 k1 k2 k3 k4 k5 k6 k7 k8 k9 k10
  have k0 := OB.out.cell 0; have k1 := OB.out.cell 1; have k2 := OB.out.cell 2; have k3 := OB.out.cell 3; have k4 := OB.out.cell 4; have k5 := OB.out.cell 5; have k6 := OB.out.cell 6; have k7 := OB.out.cell 7; have k8 := OB.out.cell 8; have k9 := OB.out.cell 9; have k10 := OB.out.cell 10
  go_wp2_with fail
  refine (wrt.raw1 _ _ _ _ _ oA on oc o W.out (by first | (simp; done) | (simp; omega) | (simp [HOLen.out]; omega)) ((HO.out.only_nil Q0.out).below B.out (Nat.le_refl _)) HOC.out (by omega)).mono ?_
  rintro x w21 ⟨rfl, b21, v21, h21⟩
  have OB := hid (OB.out.below b21 hgs); have B := hid (B.out.trans b21); have W := hid h21; clear b21 h21 k0 k1 k2 k3 k4 k5 k6 k7 k8 k9 k10
  have k0 := OB.out.cell 0; have k1 := OB.out.cell 1; have k2 := OB.out.cell 2; have k3 := OB.out.cell 3; have k4 := OB.out.cell 4; have k5 := OB.out.cell 5; have k6 := OB.out.cell 6; have k7 := OB.out.cell 7; have k8 := OB.out.cell 8; have k9 := OB.out.cell 9; have k10 := OB.out.cell 10
  go_wp2_with fail
  have RZ : Hid (Rd .u8 (w21.alloc (.cells (rowV .u8 (List.replicate (hh - 20 - on) 0)) 5)) (some ⟨w21.heap.size, 0, none⟩) (hh - 20 - on) (List.replicate (hh - 20 - on) 0)) := hid (by
    have h := (Ob.new w21 5 (rowV .u8 (List.replicate (hh - 20 - on) 0))).part (by intro x hx; rw [List.eq_of_mem_replicate hx]; exact (Lit.wf_int_iff .u8 0).2 (by decide)) 0 (hh - 20 - on) (by simp)
    simpa using h)
  have W := hid (W.out.only_nil ((Only.refl [] _).alloc (.cells (rowV .u8 (List.replicate (hh - 20 - on) 0)) 5))); have B := hid (B.out.alloc B.out.size (.cells (rowV .u8 (List.replicate (hh - 20 - on) 0)) 5)); have OB := hid (OB.out.alloc (.cells (rowV .u8 (List.replicate (hh - 20 - on) 0)) 5))
  refine (wrt.raw1 _ _ _ _ _ _ _ _ _ W.out (by first | (simp; done) | (simp; omega) | (simp [HOLen.out]; omega)) RZ.out (by simp) (by omega)).mono ?_
  rintro x w22 ⟨rfl, b22, v22, h22⟩
  have OB := hid (OB.out.below b22 hgs); have B := hid (B.out.trans b22); have W := hid h22; clear b22 h22 RZ k0 k1 k2 k3 k4 k5 k6 k7 k8 k9 k10
  go_wp2_with fail
  refine (wrt.bytes1 _ _ _ _ _ W.out (by first | (simp; done) | (simp; omega) | (simp [HOLen.out]; omega))).mono ?_
  rintro x w23 ⟨v23, rfl, hv, o23⟩
  have HQ := hid ((Q0.out.trans (Only.of_below (S := []) B.out)).trans o23)
  have HV : Hid (Own .u8 5 w23 w.heap.size v23 (hdr sv pid off lf pr wh mo fr to o dn s)) := hid (by
    rw [HHR.out]
    have h := hv.mono_base (base' := w.heap.size) (Nat.le_trans (Nat.le_of_lt hgs) B.out.size)
    simpa [b2, b4] using h)
  clear hv o23
  go_wp2
  go_ret
  exact ⟨_, rfl, HV.out, HQ.out⟩
end Go.Proofs.Ytngaolagifgfjaa.ip
