/-
  Chapter 21 (name): the closure that all records of a message are read by, by a walk of its text. Conditions: none but those typed.
-/
import Derived.Test.YtfoecnlbiaiibaaNamBc
namespace Go.Proofs.Ytfoecnlbiaiibaa.nam
set_option linter.unusedVariables false
set_option linter.unusedSimpArgs false
open Go.ChangeShapes Go.WideShapes Go.ChangeAt Go.RowKit Go.IntWalk Go.Lib
def Same2 (g k : Nat) (w w' : World) : Prop := Same g w w' ∧ Same k w w'
theorem Same2.refl (g k : Nat) (w : World) : Same2 g k w w := ⟨rfl, rfl⟩
theorem Same2.trans {g k : Nat} (a b c : World) (h : Same2 g k a b) (h2 : Same2 g k b c) : Same2 g k a c := ⟨Same.trans _ _ _ h.1 h2.1, Same.trans _ _ _ h.2 h2.2⟩
/-- The closure's three cells: its error, its bytes, its place. -/
structure CS (w : World) (e q a : Nat) (A : Option Addr) (n c : Nat) (p : Int) : Prop where
  oe : Ob w e 23 #[.int .i64 0]
  oq : Ob w q 22 #[.slice A n c]
  oa : Ob w a 3 #[.int .i64 p]
  ea : e ≠ a
  eq : e ≠ q
  aq : a ≠ q
theorem CS.only {S : List Nat} {w w' : World} {e q a : Nat} {A : Option Addr} {n c : Nat} {p : Int} (h : CS w e q a A n c p) (o : Only S w w') (he : e ∉ S) (hq : q ∉ S) (ha : a ∉ S) : CS w' e q a A n c p := ⟨h.oe.only o he, h.oq.only o hq, h.oa.only o ha, h.ea, h.eq, h.aq⟩
/-- What record is to say. -/
def RecP (A : Option Addr) (n c : Nat) (p p' : Nat) (f : Bool) (s : ByteArray) (ty cl ttl : Int) (d : List Int) (w : World) : Prop :=
  ∀ W, Only [] w W → Calls Try.prog 52 #[.slice A n c, .int .i64 p, .bool f] W fun x w' => ∃ v, x = .returned (.tuple #[.agg #[.string s, .int .i64 ty, .int .i64 cl, .int .i64 ttl, v], .int .i64 (p' : Int), .int .i64 0]) ∧ DB w' v d ∧ Only [] W w'
set_option maxRecDepth 100000 in
set_option maxHeartbeats 4000000 in
theorem nextL (w : World) (e q a : Nat) (A : Option Addr) (n c p p' : Nat) (f : Bool) (s : ByteArray) (ty cl ttl : Int) (d : List Int) (h : CS w e q a A n c p) (hr : RecP A n c p p' f s ty cl ttl d w) :
    Calls Try.prog 51 #[.bool f, .pointer (some ⟨e, 0, none⟩), .pointer (some ⟨q, 0, none⟩), .pointer (some ⟨a, 0, none⟩)] w fun x w' => ∃ Av cv, x = .returned (.tuple #[.agg #[.string s, .int .i64 ty, .int .i64 cl, .int .i64 ttl, .slice Av d.length cv], .int .i64 0]) ∧ DB w' (.slice Av d.length cv) d ∧ CS w' e q a A n c p' ∧ Only [e, a] w w' := by
  have HR := hid hr
  have H := hid h
  have hea := h.ea
  have hea' : ¬ a = e := fun x => h.ea x.symm
  have hle := h.oe.lt; have hlq := h.oq.lt; have hla := h.oa.lt
  have hne5 : e ≠ w.heap.size := by omega
  have hna5 : a ≠ w.heap.size := by omega
  have hne7 : e ≠ w.heap.size + 1 := by omega
  have hna7 : a ≠ w.heap.size + 1 := by omega
  obtain ⟨W1, hW1⟩ : ∃ W1, w.alloc (.cells #[.string ⟨#[]⟩, .int .i64 0, .int .i64 0, .int .i64 0, .slice none 0 0] 46) = W1 := ⟨_, rfl⟩
  have S1 : W1.heap.size = w.heap.size + 1 := by rw [← hW1]; simp
  have q1 : Only [] w W1 := by rw [← hW1]; exact (Only.refl [] w).alloc _
  have O5 : Hid (Ob W1 w.heap.size 46 #[.string ⟨#[]⟩, .int .i64 0, .int .i64 0, .int .i64 0, .slice none 0 0]) := hid (by rw [← hW1]; exact Ob.new _ _ _)
  have ce := (h.oe.only q1 (by simp)).cell 0
  obtain ⟨W2, hW2⟩ : ∃ W2, W1.alloc (.cells #[.string ⟨#[]⟩, .int .i64 0, .int .i64 0, .int .i64 0, .slice none 0 0] 46) = W2 := ⟨_, rfl⟩
  have q2 : Only [] W1 W2 := by rw [← hW2]; exact (Only.refl [] W1).alloc _
  have O7 : Hid (Ob W2 (w.heap.size + 1) 46 #[.string ⟨#[]⟩, .int .i64 0, .int .i64 0, .int .i64 0, .slice none 0 0]) := hid (by rw [← hW2, ← S1]; exact Ob.new _ _ _)
  have O5 := hid (O5.out.only q2 (by simp))
  have cq := ((h.oq.only q1 (by simp)).only q2 (by simp)).cell 0
  have ca := ((h.oa.only q1 (by simp)).only q2 (by simp)).cell 0
  have QB : Hid (Only [] w W2) := hid (q1.trans q2)
  clear h hr
  go_enter Try.func51, Try.ntmps51
  go_wp2_with fail
  clear hW1 hW2 ce cq ca q1 q2
  refine (HR.out W2 QB.out).mono ?_
  rintro x w3 ⟨v, rfl, hv, o3⟩
  obtain ⟨Av, cv, rfl, hv9⟩ := hv
  have HV : Hid (DB w3 (.slice Av d.length cv) d) := hid ⟨Av, cv, rfl, hv9⟩
  have O5 := hid (O5.out.only o3 (by simp)); have O7 := hid (O7.out.only o3 (by simp)); have QB := hid (QB.out.trans o3)
  have OE := hid (H.out.oe.only QB.out (by simp)); have OQ := hid (H.out.oq.only QB.out (by simp)); have OA := hid (H.out.oa.only QB.out (by simp))
  clear hv9 o3 S1
  go_wp2_with (first
    | (refine wp_storeOb rfl 46 _ _ rfl _ _ rfl rfl _ _ O7.out rfl (by kernel_rfl) (by simp [Value.oneCell']) ?_; intro W5 hW5; try simp only [Act.put, List.setIfInBounds_toArray, List.set_cons_zero, List.set_cons_succ]; have O7n := hid (O7.out.eq_all hW5 rfl); have HV := hid (HV.out.keep (K8.of_one (Only.eq_all (Only.refl [w.heap.size + 1] _) hW5 (Or.inl (by simp))) O7.out (by decide))); have QB := hid (QB.out.eq_all hW5 (Or.inr (by simp))); have O5 := hid (O5.out.eq_farAll hW5 (by omega)); have OE := hid (OE.out.eq_farAll hW5 hne7); have OA := hid (OA.out.eq_farAll hW5 hna7); have ca := OA.out.cell 0; have fa := OA.out.frozen 0; have ce := OE.out.cell 0; have fe := OE.out.frozen 0; clear hW5))
  obtain ⟨W6, hW6⟩ : ∃ W6, (W5.setCell ⟨a, 0, none⟩ (.int .i64 (p' : Int))).setCell ⟨e, 0, none⟩ (.int .i64 0) = W6 := ⟨_, rfl⟩
  have oAE : Only [e, a] W5 W6 := by rw [← hW6]; exact ((Only.refl [e, a] W5).setCell (Or.inl (by simp)) _).setCell (Or.inl (by simp)) _
  have OA : Hid (Ob W6 a 3 #[.int .i64 (p' : Int)]) := hid (by rw [← hW6]; exact (OA.out.set 0 _).far (by simpa using hea') _)
  have OE : Hid (Ob W6 e 23 #[.int .i64 0]) := hid (by rw [← hW6]; exact (OE.out.far (by simpa using hea) _).set 0 _)
  have HV := hid (HV.out.keep (K8.of_only oAE (fun k hk => by
    rcases List.mem_cons.1 hk with h | h
    · subst h; exact .inr ⟨_, _, by decide, ‹Hid (Ob W5 _ 23 _)›.out⟩
    · rw [show k = a from by simpa using h]; exact .inr ⟨_, _, by decide, ‹Hid (Ob W5 a 3 _)›.out⟩)))
  have O5 := hid (O5.out.only oAE (by simp; omega)); have O7 := hid (O7n.out.only oAE (by simp; omega))
  have QB : Hid (Only [e, a] w W6) := hid ((QB.out.more (by simp)).trans oAE)
  clear ca fa ce fe oAE O7n
  simp only [hW6]
  clear hW6
  refine wp_region_noPanic ?_
  refine rgn.regionT (R := Same2 (w.heap.size + 1) e) (by kernel_rfl) (Same2.refl (w.heap.size + 1) e) (Same2.trans (g := w.heap.size + 1) (k := e)) (fun _ _ _ _ _ h => h) (.y 0 (.y 1 (.e 2 (.e 3 .z)))) (by kernel_rfl) (fun W hWd => ?_)
  have HWd := hid hWd; clear hWd
  have o9 := Only.eq_drew (Only.refl [] _) HWd.out
  have O5 := hid (O5.out.only o9 (by simp)); have O7 := hid (O7.out.only o9 (by simp)); have OA := hid (OA.out.only o9 (by simp)); have OE := hid (OE.out.only o9 (by simp)); have HV := hid (HV.out.keep (K8.of_nil o9)); have QB := hid (QB.out.trans (o9.more (by simp)))
  have HM0 := O7
  have HE0 := OE
  clear HWd o9
  refine rgn.Walk.ys (v := ?_) rfl rfl rfl ?_ ?_
  rotate_left 1
  · intro W' hW'
    have q0 := (HM0.out.same hW'.1).cell 0
    have q1 := (HM0.out.same hW'.1).cell 1
    have q2 := (HM0.out.same hW'.1).cell 2
    have q3 := (HM0.out.same hW'.1).cell 3
    have q4 := (HM0.out.same hW'.1).cell 4
    go_simp
    try with_reducible rfl
  try simp only [Act.put, List.setIfInBounds_toArray, List.set_cons_zero, List.set_cons_succ]
  refine rgn.Walk.ys (v := ?_) rfl rfl rfl ?_ ?_
  rotate_left 1
  · intro W' hW'
    have q0 := (HE0.out.same hW'.2).cell 0
    go_simp
    try with_reducible rfl
  try simp only [Act.put, List.setIfInBounds_toArray, List.set_cons_zero, List.set_cons_succ]
  refine rgn.Walk.es ?_
  refine rgn.stepE rfl rfl (fun K hK => ?_)
  refine opStoreOb rfl 46 (.tmp 5) (.tmp 20) rfl w.heap.size #[.string s, .int .i64 ty, .int .i64 cl, .int .i64 ttl, .slice Av d.length cv] rfl rfl _ _ O5.out rfl (by kernel_rfl) (by simp [Value.oneCell']) (fun W5 hW5 => ?_)
  refine hK _ _ ⟨Same.eq_all hW5 (by omega), Same.eq_all hW5 hne5⟩ ?_
  clear hK K
  have O5n := hid (O5.out.eq_all hW5 rfl); have HV := hid (HV.out.keep (K8.of_one (Only.eq_all (Only.refl [w.heap.size] _) hW5 (Or.inl (by simp))) O5.out (by decide)))
  have QB := hid (QB.out.eq_all hW5 (Or.inr (Nat.le_refl _)))
  have OA := hid (OA.out.eq_farAll hW5 hna5); have OE := hid (OE.out.eq_farAll hW5 hne5)
  clear hW5 O5
  try simp only [Act.put, List.setIfInBounds_toArray, List.set_cons_zero, List.set_cons_succ]
  refine rgn.Walk.es ?_
  refine rgn.stepE rfl rfl (fun K hK => ?_)
  go_simp
  refine hK _ _ ((Same2.refl (w.heap.size + 1) e) _) ?_
  clear hK K
  try simp only [Act.put, List.setIfInBounds_toArray, List.set_cons_zero, List.set_cons_succ]
  refine rgn.Walk.zs (NoPanic.normal ?_)
  go_wp2_with fail
  have r0 := O5n.out.cell 0; have r1 := O5n.out.cell 1; have r2 := O5n.out.cell 2; have r3 := O5n.out.cell 3; have r4 := O5n.out.cell 4
  exact bodyPost_ret (v := .tuple #[.agg #[.string s, .int .i64 ty, .int .i64 cl, .int .i64 ttl, .slice Av d.length cv], .int .i64 0]) (by simp [results, Try.results51, go_sem, *]) rfl ⟨_, _, rfl, HV.out, ⟨OE.out, H.out.oq.only QB.out (by have h1 := H.out.eq; have h2 := H.out.aq; simp; exact ⟨fun x => h1 x.symm, fun x => h2 x.symm⟩), OA.out, H.out.ea, H.out.eq, H.out.aq⟩, QB.out⟩
theorem recs1 (w : World) (A : Option Addr) (n c : Nat) :
    Calls Try.prog 41 #[.slice A n c] w fun x w' => x = .returned (.func (.func 51) #[] #[.pointer (some ⟨w.heap.size + 2, 0, none⟩), .pointer (some ⟨w.heap.size, 0, none⟩), .pointer (some ⟨w.heap.size + 1, 0, none⟩)]) ∧ Only [] w w' ∧ CS w' (w.heap.size + 2) w.heap.size (w.heap.size + 1) A n c 12 := by
  go_enter Try.func41, Try.ntmps41
  go_wp2
  go_ret
  refine ⟨rfl, ?_, ⟨?_, ?_, ?_, by omega, by omega, by omega⟩⟩
  · repeat (first | exact Only.refl _ _ | refine Only.setCell ?_ (Or.inr (by simp)) _ | refine Only.alloc ?_ _)
  · simpa using Ob.new ((w.alloc (.cells #[.slice A n c] 22)).alloc (.cells #[.int .i64 12] 3)) 23 #[.int .i64 0]
  · exact ((Ob.new w _ _).alloc _).alloc _
  · simpa using (Ob.new (w.alloc (.cells #[.slice A n c] 22)) 3 #[.int .i64 12]).alloc (.cells #[.int .i64 0] 23)
end Go.Proofs.Ytfoecnlbiaiibaa.nam
