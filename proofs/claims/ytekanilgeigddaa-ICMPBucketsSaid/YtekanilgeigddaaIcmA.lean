/-
  Chapter 9 (icmp): messages, by a walk of each text, part A. Conditions: none but those typed.
-/
import Derived.Test.YtekanilgeigddaaSum
import Derived.Test.YtekanilgeigddaaWrt
import Derived.Deep.RegionHeld3
namespace Go.Proofs.Ytekanilgeigddaa.icm
set_option linter.unusedVariables false
set_option linter.unusedSimpArgs false
open Go.ChangeShapes Go.WideShapes Go.ChangeAt Go.RowKit Go.IntWalk Go.Lib
theorem only_below {w a b : World} {B : Nat} (h : Only [] w a) (hb : Below B a b) (hB : w.heap.size ≤ B) : Only [] w b :=
  ⟨hb.os.trans h.os, hb.tape.trans h.tape, hb.output.trans h.output, Nat.le_trans h.size hb.size, fun k hk hn => (hb.block k (by omega)).trans (h.block k hk hn)⟩
/-- A message with a sum that is handed in. -/
def msg (ty co s re : Int) (l : List Int) : List Int := ty % 256 :: co % 256 :: s / 256 % 256 :: s % 256 :: re / 16777216 % 256 :: re / 65536 % 256 :: re / 256 % 256 :: re % 256 :: l
set_option maxHeartbeats 2000000 in
theorem write1 (w : World) (ty co s re : Int) (A : Option Addr) (n c : Nat) (l : List Int) (hl : Rd .u8 w A n l) (hc0 : A = none → c = 0) (hn : n ≤ 70000) :
    Calls Try.prog 31 #[.agg #[.int .i64 ty, .int .i64 co, .int .u32 re, .slice A n c], .int .i64 s] w fun x w' => ∃ v, x = .returned v ∧ Own .u8 5 w' w.heap.size v (msg ty co s re l) ∧ Only [] w w' := by
  have HLen := hid hl.len
  have OB : Hid (Ob ((w.alloc (.cells #[.int .i64 ty, .int .i64 co, .int .u32 re, .slice A n c] 25)).alloc (.cells #[.slice none 0 0] 84)) w.heap.size 25 #[.int .i64 ty, .int .i64 co, .int .u32 re, .slice A n c]) := hid ((Ob.new _ _ _).alloc _)
  have W0 : Hid (wrt.Wr ((w.alloc (.cells #[.int .i64 ty, .int .i64 co, .int .u32 re, .slice A n c] 25)).alloc (.cells #[.slice none 0 0] 84)) (w.heap.size + 1) (w.heap.size + 1) (.slice none 0 0) []) := hid ⟨by simpa using Ob.new (w.alloc (.cells #[.int .i64 ty, .int .i64 co, .int .u32 re, .slice A n c] 25)) 84 #[.slice none 0 0], Own.nil _ _ _ _, by omega⟩
  have B0 : Hid (Below (w.heap.size + 1) ((w.alloc (.cells #[.int .i64 ty, .int .i64 co, .int .u32 re, .slice A n c] 25)).alloc (.cells #[.slice none 0 0] 84)) ((w.alloc (.cells #[.int .i64 ty, .int .i64 co, .int .u32 re, .slice A n c] 25)).alloc (.cells #[.slice none 0 0] 84))) := hid (Below.refl _ _)
  have Q0 : Hid (Only [] w ((w.alloc (.cells #[.int .i64 ty, .int .i64 co, .int .u32 re, .slice A n c] 25)).alloc (.cells #[.slice none 0 0] 84))) := hid (((Only.refl [] w).alloc _).alloc _)
  go_enter Try.func31, Try.ntmps31
  go_wp2_with fail
  refine (wrt.byte1 _ _ _ _ _ ty W0.out (by simp)).mono ?_
  rintro x w1 ⟨rfl, b1, v1, h1⟩
  have B1 := hid (B0.out.trans b1); have W1 := hid h1; clear b1 h1
  have k0 := (OB.out.below B1.out (by omega)).cell 0
  have k1 := (OB.out.below B1.out (by omega)).cell 1
  have k2 := (OB.out.below B1.out (by omega)).cell 2
  have k3 := (OB.out.below B1.out (by omega)).cell 3
  have HL1 : Hid (([] ++ [ty % 256]).length = 1) := hid rfl
  go_wp2_with fail
  clear k0 k1 k2 k3
  refine (wrt.byte1 _ _ _ _ _ co W1.out (by simp)).mono ?_
  rintro x w2 ⟨rfl, b2, v2, h2⟩
  have B2 := hid (B1.out.trans b2); have W2 := hid h2; clear b2 h2
  have k0 := (OB.out.below B2.out (by omega)).cell 0
  have k1 := (OB.out.below B2.out (by omega)).cell 1
  have k2 := (OB.out.below B2.out (by omega)).cell 2
  have k3 := (OB.out.below B2.out (by omega)).cell 3
  go_wp2_with fail
  clear k0 k1 k2 k3
  refine (wrt.two1 _ _ _ _ _ s W2.out (by simp)).mono ?_
  rintro x w3 ⟨rfl, b3, v3, h3⟩
  have B3 := hid (B2.out.trans b3); have W3 := hid h3; clear b3 h3
  have k0 := (OB.out.below B3.out (by omega)).cell 0
  have k1 := (OB.out.below B3.out (by omega)).cell 1
  have k2 := (OB.out.below B3.out (by omega)).cell 2
  have k3 := (OB.out.below B3.out (by omega)).cell 3
  go_wp2_with fail
  clear k0 k1 k2 k3
  refine (wrt.four1 _ _ _ _ _ re W3.out (by simp)).mono ?_
  rintro x w4 ⟨rfl, b4, v4, h4⟩
  have B4 := hid (B3.out.trans b4); have W4 := hid h4; clear b4 h4
  have k0 := (OB.out.below B4.out (by omega)).cell 0
  have k1 := (OB.out.below B4.out (by omega)).cell 1
  have k2 := (OB.out.below B4.out (by omega)).cell 2
  have k3 := (OB.out.below B4.out (by omega)).cell 3
  go_wp2_with fail
  clear k0 k1 k2 k3
  refine (wrt.raw1 _ _ _ _ _ A n c l W4.out (by simp) (hl.only_nil (only_below Q0.out B4.out (by omega))) hc0 (by omega)).mono ?_
  rintro x w5 ⟨rfl, b5, v5, h5⟩
  have B5 := hid (B4.out.trans b5); have W5 := hid h5; clear b5 h5
  have k0 := (OB.out.below B5.out (by omega)).cell 0
  have k1 := (OB.out.below B5.out (by omega)).cell 1
  have k2 := (OB.out.below B5.out (by omega)).cell 2
  have k3 := (OB.out.below B5.out (by omega)).cell 3
  go_wp2_with fail
  clear k0 k1 k2 k3
  refine (wrt.bytes1 _ _ _ _ _ W5.out (by simp [HLen.out]; omega)).mono ?_
  rintro x w6 ⟨v6, rfl, o6, q6⟩
  obtain ⟨A6, cap6, ev6, _, _, _, _⟩ := o6.slice
  have O6 := hid o6; have Q6 := hid q6; clear o6 q6
  have Q5 := hid (only_below Q0.out B5.out (by omega))
  have s5 := Q5.out.size
  subst ev6
  go_wp2
  go_ret
  exact ⟨_, rfl, O6.out.mono_base s5, Q5.out.trans Q6.out⟩
theorem msg_wf (ty co s re : Int) (l : List Int) (h : ∀ z ∈ l, (Lit.int .u8 z).wf = true) : ∀ z ∈ msg ty co s re l, (Lit.int .u8 z).wf = true := by
  intro z hz
  unfold msg at hz
  simp only [List.mem_cons] at hz
  rcases hz with h1 | h1 | h1 | h1 | h1 | h1 | h1 | h1 | h1
  case inr.inr.inr.inr.inr.inr.inr.inr => exact h z h1
  all_goals (subst h1; apply (Lit.wf_int_iff .u8 _).2; constructor <;> (first | (show 0 ≤ _; omega) | (show _ ≤ 255; omega)))
/-- What Encode writes. -/
def enc (ty co re : Int) (l : List Int) : List Int := msg ty co (oct.sumF (msg ty co 0 re l)) re l
theorem enc_len (ty co re : Int) (l : List Int) : (enc ty co re l).length = 8 + l.length := by simp [enc, msg]; omega
set_option maxHeartbeats 4000000 in
theorem encode1 (w : World) (ty co re : Int) (A : Option Addr) (n c : Nat) (l : List Int) (hl : Rd .u8 w A n l) (hc0 : A = none → c = 0) (hn : n ≤ 65507) (ht : 0 ≤ ty ∧ ty ≤ 255) (hco : 0 ≤ co ∧ co ≤ 255) :
    Calls Try.prog 11 #[.agg #[.int .i64 ty, .int .i64 co, .int .u32 re, .slice A n c]] w fun x w' => ∃ v, x = .returned (.tuple #[v, .int .i64 0]) ∧ Own .u8 5 w' w.heap.size v (enc ty co re l) ∧ Only [] w w' := by
  have HLen := hid hl.len
  have HML : Hid (∀ s, (msg ty co s re l).length = 8 + n) := hid (by intro s; simp [msg, HLen.out]; omega)
  have QB : Hid (Only [] w (w.alloc (.cells #[.int .i64 ty, .int .i64 co, .int .u32 re, .slice A n c] 25)).drew) := hid ((Only.refl [] w).alloc _).drew
  have OB : Hid (Ob (w.alloc (.cells #[.int .i64 ty, .int .i64 co, .int .u32 re, .slice A n c] 25)).drew w.heap.size 25 #[.int .i64 ty, .int .i64 co, .int .u32 re, .slice A n c]) := hid (Ob.new _ _ _).drew
  go_enter Try.func11, Try.ntmps11
  go_wp2_with fail
  go_region_held3 (fun w' => w'.cell? ⟨w.heap.size, 0, none⟩ = some (.int .i64 ty) ∧ w'.cell? ⟨w.heap.size, 1, none⟩ = some (.int .i64 co) ∧ w'.cell? ⟨w.heap.size, 2, none⟩ = some (.int .u32 re) ∧ w'.cell? ⟨w.heap.size, 3, none⟩ = some (.slice A n c)) (go_keep) (first
    | (go_at_call 15; refine (oct.sum1 _ _ _ _ _ RV.out (by rw [HML.out]; omega)).mono ?_; rintro x w2 ⟨rfl, m2, rfl⟩; have OB := hid (OB.out.drewN m2); have QB := hid (QB.out.drewN m2))
    | (go_at_call 31; refine (write1 _ ty co _ re A n c l (hl.only_nil QB.out) hc0 (by omega)).mono ?_; rintro x w1 ⟨v1, rfl, o1, q1⟩; have sz := QB.out.size; have OM := hid (o1.mono_base sz); clear sz; have OB := hid (OB.out.only q1 (by simp)); have QB := hid (QB.out.trans q1); obtain ⟨A1, cap1, ev1, _, _, r1, _⟩ := o1.slice; have RV := hid r1; have OV := hid o1; subst ev1; have k0 := OB.out.cell 0; have k1 := OB.out.cell 1; have k2 := OB.out.cell 2; have k3 := OB.out.cell 3; clear o1 q1 r1))
  clear k0 k1 k2 k3
  go_wp2
  go_ret2
  exact ⟨_, rfl, OM.out, QB.out⟩
theorem enc_known : enc 8 0 65538 [171] = [8, 0, 76, 252, 0, 1, 0, 2, 171] := by decide +kernel
set_option maxHeartbeats 2000000 in
theorem known (w : World) : Calls Try.prog 16 #[] w fun x w' => x = .returned (.bool true) ∧ Only [] w w' := by
  have R1 : Hid (Rd .u8 (w.alloc (.cells #[.int .u8 171] 5)) (some ⟨w.heap.size, 0, none⟩) 1 [171]) := hid (Own.lit .u8 5 w w.heap.size [171] _ 1 rfl rfl (Nat.le_refl _) (by decide) (by decide)).rd
  go_enter Try.func16, Try.ntmps16
  go_wp2_with fail
  refine (encode1 _ 8 0 65538 _ 1 1 [171] R1.out (by simp) (by omega) (by omega) (by omega)).mono ?_
  rintro x w1 ⟨v1, rfl, o1, q1⟩
  rw [enc_known] at o1
  obtain ⟨A1, cap1, ev1, _, _, r1, _⟩ := o1.slice
  obtain ⟨b, off, rfl, _, hc⟩ := r1.at_ (by decide)
  have c2 : w1.cell? ⟨b, off + 2, none⟩ = some (.int .u8 76) := hc 2 (by decide)
  have c3 : w1.cell? ⟨b, off + 3, none⟩ = some (.int .u8 252) := hc 3 (by decide)
  have Q1 : Hid (Only [] w w1) := hid (((Only.refl [] w).alloc _).trans q1)
  clear hc r1 o1 q1
  simp only [List.length_cons, List.length_nil, Nat.zero_add, Nat.reduceAdd] at ev1
  subst ev1
  go_wp2
  try go_quiet (fail)
  try go_wp2
  go_ret
  exact ⟨rfl, by first | exact Q1.out | exact Q1.out.drewN _⟩
end Go.Proofs.Ytekanilgeigddaa.icm
