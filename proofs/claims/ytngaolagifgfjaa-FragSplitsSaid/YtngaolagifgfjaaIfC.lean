/-
  Chapter 6 (ipv4): a packet's numbers, by a walk of each text. Conditions: none but those typed.
-/
import Derived.Test.YtngaolagifgfjaaIfB
import Derived.Test.YtngaolagifgfjaaOrm
import Derived.Deep.RegionHeld3
namespace Go.Proofs.Ytngaolagifgfjaa.ip
set_option linter.unusedVariables false
set_option linter.unusedSimpArgs false
open Go.ChangeShapes Go.WideShapes Go.ChangeAt Go.RowKit Go.IntWalk Go.Lib
/-- A header's length. -/
def hl (on : Nat) : Nat := 20 + (on + 3) / 4 * 4
theorem hl_bd (on : Nat) : 20 + on ≤ hl on ∧ hl on ≤ 23 + on := by unfold hl; omega
/-- A packet's Whole, More and Offset as they are written. -/
def pbs (off : Int) (wh mo : Bool) : Int := off / 8 + (if wh then 16384 else 0) + (if mo then 8192 else 0)
def Nums (sv pid off lf pr : Int) : Prop := (0 ≤ sv ∧ sv ≤ 255) ∧ (0 ≤ lf ∧ lf ≤ 255) ∧ (0 ≤ pr ∧ pr ≤ 255) ∧ (0 ≤ pid ∧ pid ≤ 65535) ∧ (0 ≤ off ∧ off ≤ 65528) ∧ off % 8 = 0
instance (sv pid off lf pr : Int) : Decidable (Nums sv pid off lf pr) := by unfold Nums; infer_instance
/-- The error of a packet that is to be written. -/
def chk (sv pid off lf pr : Int) (o : List Int) (dn : Nat) : Int := if Nums sv pid off lf pr then (if 40 < o.length then 3 else if okO o = false then 3 else if 65535 - (hl o.length : Int) < off + dn then 5 else 0) else 1
theorem head1 (w : World) (sv pid off lf pr : Int) (wh mo : Bool) (fr to : Int) (oA : Option Addr) (on oc : Nat) (dA : Option Addr) (dn dc : Nat) (hn : on ≤ 100000) : Calls Try.prog 53 #[.agg #[.int .i64 sv, .int .i64 pid, .bool wh, .bool mo, .int .i64 off, .int .i64 lf, .int .i64 pr, .int .u32 fr, .int .u32 to, .slice oA on oc, .slice dA dn dc]] w fun x w' => x = .returned (.int .i64 (hl on : Nat)) ∧ Only [] w w' := by
  have QB : Hid (Only [] w (w.alloc (.cells #[.int .i64 sv, .int .i64 pid, .bool wh, .bool mo, .int .i64 off, .int .i64 lf, .int .i64 pr, .int .u32 fr, .int .u32 to, .slice oA on oc, .slice dA dn dc] 26))) := hid ((Only.refl [] w).alloc _)
  have HE : Hid ((20 : Int) + ((on : Int) + 3) / 4 * 4 = (hl on : Nat)) := hid (by unfold hl; omega)
  go_enter Try.func53, Try.ntmps53
  go_wp2
  go_ret
  exact ⟨rInt (by rw [← HE.out]), QB.out⟩
theorem head2 (w : World) (sv pid off lf pr : Int) (wh mo : Bool) (fr to : Int) (oA : Option Addr) (on oc : Nat) (dA : Option Addr) (dn dc : Nat) (hn : on ≤ 100000) : Calls Try.prog 32 #[.agg #[.int .i64 sv, .int .i64 pid, .bool wh, .bool mo, .int .i64 off, .int .i64 lf, .int .i64 pr, .int .u32 fr, .int .u32 to, .slice oA on oc, .slice dA dn dc]] w fun x w' => x = .returned (.int .i64 (hl on : Nat)) ∧ Only [] w w' := by
  have QB : Hid (Only [] w (w.alloc (.cells #[.int .i64 sv, .int .i64 pid, .bool wh, .bool mo, .int .i64 off, .int .i64 lf, .int .i64 pr, .int .u32 fr, .int .u32 to, .slice oA on oc, .slice dA dn dc] 26))) := hid ((Only.refl [] w).alloc _)
  have HE : Hid ((20 : Int) + ((on : Int) + 3) / 4 * 4 = (hl on : Nat)) := hid (by unfold hl; omega)
  go_enter Try.func32, Try.ntmps32
  go_wp2
  go_ret
  exact ⟨rInt (by rw [← HE.out]), QB.out⟩
theorem bits1 (w : World) (sv pid off lf pr : Int) (wh mo : Bool) (fr to : Int) (oA : Option Addr) (on oc : Nat) (dA : Option Addr) (dn dc : Nat) (h0 : 0 ≤ off) (h1 : off ≤ 65528) : Calls Try.prog 56 #[.agg #[.int .i64 sv, .int .i64 pid, .bool wh, .bool mo, .int .i64 off, .int .i64 lf, .int .i64 pr, .int .u32 fr, .int .u32 to, .slice oA on oc, .slice dA dn dc]] w fun x w' => x = .returned (.int .i64 (pbs off wh mo)) ∧ Only [] w w' := by
  have QB : Hid (Only [] w (w.alloc (.cells #[.int .i64 sv, .int .i64 pid, .bool wh, .bool mo, .int .i64 off, .int .i64 lf, .int .i64 pr, .int .u32 fr, .int .u32 to, .slice oA on oc, .slice dA dn dc] 26))) := hid ((Only.refl [] w).alloc _)
  obtain ⟨m, hm, hm2⟩ : ∃ m : Nat, off / 8 = m ∧ m < 8192 := ⟨(off / 8).toNat, by omega, by omega⟩
  have h14 : ∀ q, q < 16384 → 16384 ||| q = 16384 + q := fun q hq => by simpa using nat_or_mul 1 q 14 (by omega)
  have h13 : ∀ q, q < 8192 → 8192 ||| q = 8192 + q := fun q hq => by simpa using nat_or_mul 1 q 13 (by omega)
  have e1 : m ||| 16384 = m + 16384 := by rw [Nat.or_comm, h14 m (by omega)]; omega
  have e2 : m ||| 8192 = m + 8192 := by rw [Nat.or_comm, h13 m (by omega)]; omega
  have e3 : (m + 16384) ||| 8192 = m + 16384 + 8192 := by
    rw [← e1, Nat.or_comm m 16384, Nat.or_assoc, e2, h14 (m + 8192) (by omega), h14 m (by omega)]; omega
  clear h14 h13
  have o1 : bits .or .i64 (off / 8) 16384 = off / 8 + 16384 := by rw [hm]; have h := i64_or_nat m 16384 (by omega) (by omega); rw [e1] at h; simpa using h
  have o2 : bits .or .i64 (off / 8) 8192 = off / 8 + 8192 := by rw [hm]; have h := i64_or_nat m 8192 (by omega) (by omega); rw [e2] at h; simpa using h
  have o3 : bits .or .i64 (off / 8 + 16384) 8192 = off / 8 + 16384 + 8192 := by rw [hm]; have h := i64_or_nat (m + 16384) 8192 (by omega) (by omega); rw [e3] at h; simpa using h
  clear e1 e2 e3 hm hm2 m
  cases wh <;> cases mo
  · go_enter Try.func56, Try.ntmps56
    go_wp2
    go_ret
    exact ⟨rInt (by simp [pbs]), QB.out⟩
  · go_enter Try.func56, Try.ntmps56
    go_wp2
    go_ret
    exact ⟨rInt (by simp [pbs]), QB.out⟩
  · go_enter Try.func56, Try.ntmps56
    go_wp2
    go_ret
    exact ⟨rInt (by simp [pbs]), QB.out⟩
  · go_enter Try.func56, Try.ntmps56
    go_wp2
    go_ret
    exact ⟨rInt (by simp [pbs]), QB.out⟩
set_option maxRecDepth 100000 in
set_option maxHeartbeats 8000000 in
theorem check1 (w : World) (sv pid off lf pr : Int) (wh mo : Bool) (fr to : Int) (oA : Option Addr) (on oc : Nat) (dA : Option Addr) (dn dc : Nat) (o : List Int) (ho : Rd .u8 w oA on o) (hnc : on ≤ oc) (hcm : oc ≤ maxLen) (hn : on ≤ 100000) (hdn : dn ≤ 100000) : Calls Try.prog 34 #[.agg #[.int .i64 sv, .int .i64 pid, .bool wh, .bool mo, .int .i64 off, .int .i64 lf, .int .i64 pr, .int .u32 fr, .int .u32 to, .slice oA on oc, .slice dA dn dc]] w fun x w' => x = .returned (.int .i64 (chk sv pid off lf pr o dn)) ∧ Only [] w w' := by
  have i0 : ∀ w, (Instr.index 91 (.agg #[.int .i64 sv, .int .i64 255, .int .i64 lf, .int .i64 255, .int .i64 pr, .int .i64 255, .int .i64 pid, .int .i64 65535, .int .i64 off, .int .i64 65528]) (.int .i64 0)).run Try.prog w = .ok (.agg #[.int .i64 sv, .int .i64 255]) w := fun _ => by kernel_rfl
  have i1 : ∀ w, (Instr.index 91 (.agg #[.int .i64 sv, .int .i64 255, .int .i64 lf, .int .i64 255, .int .i64 pr, .int .i64 255, .int .i64 pid, .int .i64 65535, .int .i64 off, .int .i64 65528]) (.int .i64 1)).run Try.prog w = .ok (.agg #[.int .i64 lf, .int .i64 255]) w := fun _ => by kernel_rfl
  have i2 : ∀ w, (Instr.index 91 (.agg #[.int .i64 sv, .int .i64 255, .int .i64 lf, .int .i64 255, .int .i64 pr, .int .i64 255, .int .i64 pid, .int .i64 65535, .int .i64 off, .int .i64 65528]) (.int .i64 2)).run Try.prog w = .ok (.agg #[.int .i64 pr, .int .i64 255]) w := fun _ => by kernel_rfl
  have i3 : ∀ w, (Instr.index 91 (.agg #[.int .i64 sv, .int .i64 255, .int .i64 lf, .int .i64 255, .int .i64 pr, .int .i64 255, .int .i64 pid, .int .i64 65535, .int .i64 off, .int .i64 65528]) (.int .i64 3)).run Try.prog w = .ok (.agg #[.int .i64 pid, .int .i64 65535]) w := fun _ => by kernel_rfl
  have i4 : ∀ w, (Instr.index 91 (.agg #[.int .i64 sv, .int .i64 255, .int .i64 lf, .int .i64 255, .int .i64 pr, .int .i64 255, .int .i64 pid, .int .i64 65535, .int .i64 off, .int .i64 65528]) (.int .i64 4)).run Try.prog w = .ok (.agg #[.int .i64 off, .int .i64 65528]) w := fun _ => by kernel_rfl
  have HO := hid ho
  have HOL := hid ho.len
  clear ho
  have HBad : Hid (¬ Nums sv pid off lf pr → (1 : Int) = chk sv pid off lf pr o dn) := hid (fun h => by unfold chk; rw [if_neg h])
  have HGood : Hid (Nums sv pid off lf pr → chk sv pid off lf pr o dn = if 40 < o.length then 3 else if okO o = false then 3 else if 65535 - (hl o.length : Int) < off + dn then 5 else 0) := hid (fun h => by unfold chk; rw [if_pos h])
  have QB : Hid (Only [] w (w.alloc (.cells #[.int .i64 sv, .int .i64 pid, .bool wh, .bool mo, .int .i64 off, .int .i64 lf, .int .i64 pr, .int .u32 fr, .int .u32 to, .slice oA on oc, .slice dA dn dc] 26))) := hid ((Only.refl [] w).alloc _)
  have OB : Hid (Ob (w.alloc (.cells #[.int .i64 sv, .int .i64 pid, .bool wh, .bool mo, .int .i64 off, .int .i64 lf, .int .i64 pr, .int .u32 fr, .int .u32 to, .slice oA on oc, .slice dA dn dc] 26)) w.heap.size 26 #[.int .i64 sv, .int .i64 pid, .bool wh, .bool mo, .int .i64 off, .int .i64 lf, .int .i64 pr, .int .u32 fr, .int .u32 to, .slice oA on oc, .slice dA dn dc]) := hid (Ob.new _ _ _)
  go_enter Try.func34, Try.ntmps34
  go_wp2_with fail
  go_loopw [4, 21] (fun c i wr => ((i = .int .i64 0 ∧ True) ∨ (i = .int .i64 1 ∧ True ∧ 0 ≤ sv ∧ sv ≤ 255) ∨ (i = .int .i64 2 ∧ True ∧ 0 ≤ sv ∧ sv ≤ 255 ∧ 0 ≤ lf ∧ lf ≤ 255) ∨ (i = .int .i64 3 ∧ True ∧ 0 ≤ sv ∧ sv ≤ 255 ∧ 0 ≤ lf ∧ lf ≤ 255 ∧ 0 ≤ pr ∧ pr ≤ 255) ∨ (i = .int .i64 4 ∧ True ∧ 0 ≤ sv ∧ sv ≤ 255 ∧ 0 ≤ lf ∧ lf ≤ 255 ∧ 0 ≤ pr ∧ pr ≤ 255 ∧ 0 ≤ pid ∧ pid ≤ 65535) ∨ (i = .int .i64 5 ∧ True ∧ 0 ≤ sv ∧ sv ≤ 255 ∧ 0 ≤ lf ∧ lf ≤ 255 ∧ 0 ≤ pr ∧ pr ≤ 255 ∧ 0 ≤ pid ∧ pid ≤ 65535 ∧ 0 ≤ off ∧ off ≤ 65528)) ∧ Hid (Only [] (w.alloc (.cells #[.int .i64 sv, .int .i64 pid, .bool wh, .bool mo, .int .i64 off, .int .i64 lf, .int .i64 pr, .int .u32 fr, .int .u32 to, .slice oA on oc, .slice dA dn dc] 26)) wr)) (fun _ i _ => (5 - intOf i).toNat)
  case atStart => exact ⟨(.inl ⟨rfl, trivial⟩), hid (Only.refl _ _)⟩
  case round =>
    obtain ⟨hj, HW⟩ := hrel
    rcases hj with ⟨rfl, hg0⟩ | ⟨rfl, hg1⟩ | ⟨rfl, hg2⟩ | ⟨rfl, hg3⟩ | ⟨rfl, hg4⟩ | ⟨rfl, hg5⟩
    · skip
      have HC : Hid (Ob (wr.alloc (.cells #[.int .i64 sv, .int .i64 255] 90)) wr.heap.size 90 #[.int .i64 sv, .int .i64 255]) := hid (Ob.new _ _ _)
      have k0 := HC.out.cell 0; have k1 := HC.out.cell 1
      have HW2 := hid (HW.out.alloc (.cells #[.int .i64 sv, .int .i64 255] 90))
      by_cases hx : sv < 0
      · have d1 : decide (sv < 0) = true := by simpa using hx
        have hr := hid (HBad.out (by unfold Nums; omega))
        go_wp2
        go_ret
        exact ⟨rInt hr.out, QB.out.trans HW2.out⟩
      · have d1 : decide (sv < 0) = false := by simpa using hx
        by_cases hy : 255 < sv
        · have d2 : decide (255 < sv) = true := by simpa using hy
          have hr := hid (HBad.out (by unfold Nums; omega))
          go_wp2
          go_ret
          exact ⟨rInt hr.out, QB.out.trans HW2.out⟩
        · have d2 : decide (255 < sv) = false := by simpa using hy
          go_wp2
          go_roundw
          case rel => exact ⟨(.inr (.inl ⟨rfl, by refine ⟨trivial, ?_⟩; omega⟩)), HW2⟩
          case measure => simp [intOf]
    · skip
      have HC : Hid (Ob (wr.alloc (.cells #[.int .i64 lf, .int .i64 255] 90)) wr.heap.size 90 #[.int .i64 lf, .int .i64 255]) := hid (Ob.new _ _ _)
      have k0 := HC.out.cell 0; have k1 := HC.out.cell 1
      have HW2 := hid (HW.out.alloc (.cells #[.int .i64 lf, .int .i64 255] 90))
      by_cases hx : lf < 0
      · have d1 : decide (lf < 0) = true := by simpa using hx
        have hr := hid (HBad.out (by unfold Nums; omega))
        go_wp2
        go_ret
        exact ⟨rInt hr.out, QB.out.trans HW2.out⟩
      · have d1 : decide (lf < 0) = false := by simpa using hx
        by_cases hy : 255 < lf
        · have d2 : decide (255 < lf) = true := by simpa using hy
          have hr := hid (HBad.out (by unfold Nums; omega))
          go_wp2
          go_ret
          exact ⟨rInt hr.out, QB.out.trans HW2.out⟩
        · have d2 : decide (255 < lf) = false := by simpa using hy
          go_wp2
          go_roundw
          case rel => exact ⟨(.inr (.inr (.inl ⟨rfl, by refine ⟨trivial, ?_⟩; omega⟩))), HW2⟩
          case measure => simp [intOf]
    · skip
      have HC : Hid (Ob (wr.alloc (.cells #[.int .i64 pr, .int .i64 255] 90)) wr.heap.size 90 #[.int .i64 pr, .int .i64 255]) := hid (Ob.new _ _ _)
      have k0 := HC.out.cell 0; have k1 := HC.out.cell 1
      have HW2 := hid (HW.out.alloc (.cells #[.int .i64 pr, .int .i64 255] 90))
      by_cases hx : pr < 0
      · have d1 : decide (pr < 0) = true := by simpa using hx
        have hr := hid (HBad.out (by unfold Nums; omega))
        go_wp2
        go_ret
        exact ⟨rInt hr.out, QB.out.trans HW2.out⟩
      · have d1 : decide (pr < 0) = false := by simpa using hx
        by_cases hy : 255 < pr
        · have d2 : decide (255 < pr) = true := by simpa using hy
          have hr := hid (HBad.out (by unfold Nums; omega))
          go_wp2
          go_ret
          exact ⟨rInt hr.out, QB.out.trans HW2.out⟩
        · have d2 : decide (255 < pr) = false := by simpa using hy
          go_wp2
          go_roundw
          case rel => exact ⟨(.inr (.inr (.inr (.inl ⟨rfl, by refine ⟨trivial, ?_⟩; omega⟩)))), HW2⟩
          case measure => simp [intOf]
    · skip
      have HC : Hid (Ob (wr.alloc (.cells #[.int .i64 pid, .int .i64 65535] 90)) wr.heap.size 90 #[.int .i64 pid, .int .i64 65535]) := hid (Ob.new _ _ _)
      have k0 := HC.out.cell 0; have k1 := HC.out.cell 1
      have HW2 := hid (HW.out.alloc (.cells #[.int .i64 pid, .int .i64 65535] 90))
      by_cases hx : pid < 0
      · have d1 : decide (pid < 0) = true := by simpa using hx
        have hr := hid (HBad.out (by unfold Nums; omega))
        go_wp2
        go_ret
        exact ⟨rInt hr.out, QB.out.trans HW2.out⟩
      · have d1 : decide (pid < 0) = false := by simpa using hx
        by_cases hy : 65535 < pid
        · have d2 : decide (65535 < pid) = true := by simpa using hy
          have hr := hid (HBad.out (by unfold Nums; omega))
          go_wp2
          go_ret
          exact ⟨rInt hr.out, QB.out.trans HW2.out⟩
        · have d2 : decide (65535 < pid) = false := by simpa using hy
          go_wp2
          go_roundw
          case rel => exact ⟨(.inr (.inr (.inr (.inr (.inl ⟨rfl, by refine ⟨trivial, ?_⟩; omega⟩))))), HW2⟩
          case measure => simp [intOf]
    · skip
      have HC : Hid (Ob (wr.alloc (.cells #[.int .i64 off, .int .i64 65528] 90)) wr.heap.size 90 #[.int .i64 off, .int .i64 65528]) := hid (Ob.new _ _ _)
      have k0 := HC.out.cell 0; have k1 := HC.out.cell 1
      have HW2 := hid (HW.out.alloc (.cells #[.int .i64 off, .int .i64 65528] 90))
      by_cases hx : off < 0
      · have d1 : decide (off < 0) = true := by simpa using hx
        have hr := hid (HBad.out (by unfold Nums; omega))
        go_wp2
        go_ret
        exact ⟨rInt hr.out, QB.out.trans HW2.out⟩
      · have d1 : decide (off < 0) = false := by simpa using hx
        by_cases hy : 65528 < off
        · have d2 : decide (65528 < off) = true := by simpa using hy
          have hr := hid (HBad.out (by unfold Nums; omega))
          go_wp2
          go_ret
          exact ⟨rInt hr.out, QB.out.trans HW2.out⟩
        · have d2 : decide (65528 < off) = false := by simpa using hy
          go_wp2
          go_roundw
          case rel => exact ⟨(.inr (.inr (.inr (.inr (.inr ⟨rfl, by refine ⟨trivial, ?_⟩; omega⟩))))), HW2⟩
          case measure => simp [intOf]
    · skip
      have HQ := hid (QB.out.trans HW.out)
      have OB := hid (OB.out.only HW.out (by simp))
      clear HW
      have k4 := OB.out.cell 4; have k9 := OB.out.cell 9; have k10 := OB.out.cell 10
      by_cases hm : off % 8 = 0
      · have d1 : (off % 8 != 0) = false := by simpa using hm
        have HG := hid (HGood.out (by unfold Nums; omega))
        by_cases ho : 40 < on
        · have d2 : decide (40 < (on : Int)) = true := decide_eq_true (by omega)
          have hr : Hid ((3 : Int) = chk sv pid off lf pr o dn) := hid (by rw [HG.out, if_pos (by rw [HOL.out]; exact ho)])
          go_wp2
          go_ret
          exact ⟨rInt hr.out, HQ.out⟩
        · have ho2 : ¬ (40 < (on : Int)) := by omega
          cases hok : okO o with
          | false =>
            have hr : Hid ((3 : Int) = chk sv pid off lf pr o dn) := hid (by rw [HG.out, if_neg (by rw [HOL.out]; exact ho), if_pos hok])
            have HWF := fun W (h : Rd .u8 W oA on o) => wf1 W oA on oc o false h hnc hcm (by omega) (by rw [← hok]; exact ofs_okO o)
            have HWF := hid HWF
            clear hok hcm
            go_wp2_with fail
            refine (HWF.out _ (HO.out.only_nil HQ.out)).mono ?_
            rintro x w' ⟨rfl, rfl⟩
            go_wp2
            go_ret
            exact ⟨rInt hr.out, HQ.out⟩
          | true =>
            have HG2 : Hid (chk sv pid off lf pr o dn = if 65535 - (hl on : Int) < off + dn then 5 else 0) := hid (by rw [HG.out, if_neg (by rw [HOL.out]; exact ho), if_neg (by rw [hok]; decide), HOL.out])
            have HWF := fun W (h : Rd .u8 W oA on o) => wf1 W oA on oc o true h hnc hcm (by omega) (by rw [← hok]; exact ofs_okO o)
            have HWF := hid HWF
            have hhl := hl_bd on
            clear hok hcm HG
            go_wp2_with fail
            refine (HWF.out _ (HO.out.only_nil HQ.out)).mono ?_
            rintro x w9 ⟨rfl, rfl⟩
            clear k4 k9 k10
            go_wp2_with fail
            obtain ⟨hhn, hhe⟩ : ∃ q : Nat, q = hl on := ⟨_, rfl⟩
            rw [← hhe] at HG2 hhl
            have HHE := hid hhe; clear hhe
            have OB := hid OB.out.drew; have HQ := hid HQ.out.drew
            have k0 := OB.out.cell 0; have k1 := OB.out.cell 1; have k2 := OB.out.cell 2; have k3 := OB.out.cell 3; have k4 := OB.out.cell 4; have k5 := OB.out.cell 5; have k6 := OB.out.cell 6; have k7 := OB.out.cell 7; have k8 := OB.out.cell 8; have k9 := OB.out.cell 9; have k10 := OB.out.cell 10
            go_region_held3 (fun w' => w'.cell? ⟨w.heap.size, 0, none⟩ = some (.int .i64 sv) ∧ w'.cell? ⟨w.heap.size, 1, none⟩ = some (.int .i64 pid) ∧ w'.cell? ⟨w.heap.size, 2, none⟩ = some (.bool wh) ∧ w'.cell? ⟨w.heap.size, 3, none⟩ = some (.bool mo) ∧ w'.cell? ⟨w.heap.size, 4, none⟩ = some (.int .i64 off) ∧ w'.cell? ⟨w.heap.size, 5, none⟩ = some (.int .i64 lf) ∧ w'.cell? ⟨w.heap.size, 6, none⟩ = some (.int .i64 pr) ∧ w'.cell? ⟨w.heap.size, 7, none⟩ = some (.int .u32 fr) ∧ w'.cell? ⟨w.heap.size, 8, none⟩ = some (.int .u32 to) ∧ w'.cell? ⟨w.heap.size, 9, none⟩ = some (.slice oA on oc) ∧ w'.cell? ⟨w.heap.size, 10, none⟩ = some (.slice dA dn dc)) (go_keep) (first
              | (go_at_call 53; refine (head1 _ sv pid off lf pr wh mo fr to oA on oc dA dn dc (by omega)).mono ?_; rintro x w2 ⟨rfl, q2⟩; rw [← HHE.out]; have OB := hid (OB.out.only q2 (by simp)); have HQ := hid (HQ.out.trans q2); clear q2; have k0 := OB.out.cell 0; have k1 := OB.out.cell 1; have k2 := OB.out.cell 2; have k3 := OB.out.cell 3; have k4 := OB.out.cell 4; have k5 := OB.out.cell 5; have k6 := OB.out.cell 6; have k7 := OB.out.cell 7; have k8 := OB.out.cell 8; have k9 := OB.out.cell 9; have k10 := OB.out.cell 10))
            rw [show IntKind.i64.wrap (65535 - (hhn : Int)) = 65535 - hhn from i64_in _ (by omega), show IntKind.i64.wrap (off + (dn : Int)) = off + dn from i64_in _ (by omega)]
            by_cases h5 : 65535 - (hhn : Int) < off + dn
            · have hr : Hid ((5 : Int) = chk sv pid off lf pr o dn) := hid (by rw [HG2.out, if_pos h5])
              go_wp2
              all_goals first | (exfalso; omega) | (go_ret; exact ⟨rInt hr.out, HQ.out⟩)
            · have hr : Hid ((0 : Int) = chk sv pid off lf pr o dn) := hid (by rw [HG2.out, if_neg h5])
              go_wp2
              all_goals first | (exfalso; omega) | (go_ret; exact ⟨rInt hr.out, HQ.out⟩)
      · have d1 : (off % 8 != 0) = true := by simpa using hm
        have hr := hid (HBad.out (by unfold Nums; omega))
        go_wp2
        go_ret
        exact ⟨rInt hr.out, HQ.out⟩
end Go.Proofs.Ytngaolagifgfjaa.ip
