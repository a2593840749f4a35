/-
  Chapter 16 (cong): what each function of the program and of the document's answer does to its object, by a walk of its text, part A. Conditions: the numbers of the object lie in their bounds.
-/
import Derived.Test.YtoogifoopafghabRows
import Derived.Test.YtoogifoopafghabLib
import Derived.Laws.EntriesVeiled
import Derived.Deep.QuietTactic
import Derived.BigQuiet
namespace Go.Proofs.Ytoogifoopafghab.cng
set_option linter.unusedVariables false
set_option linter.unusedSimpArgs false
open Go.ChangeShapes Go.WideShapes Go.ChangeAt Go.RowKit Go.IntWalk Go.Lib
/-- The method of a sender, bound to it. -/
def meth (k : Nat) (g : Nat) : Value := .func (.func k) #[.pointer (some ⟨g, 0, none⟩)] #[]
def Snd (w : World) (g : Nat) (m win thr rep un : Int) (mend : Bool) (k l : Nat) : Prop :=
  Ob w g 84 #[.int .i64 m, .int .i64 win, .int .i64 thr, .int .i64 rep, .int .u32 un, .bool mend, meth k g, meth l g]
theorem Snd.mk {w : World} {g : Nat} {m m' win win' thr thr' rep rep' un un' : Int} {mend mend' : Bool} {k k' l l' : Nat} (h : Ob w g 84 #[.int .i64 m, .int .i64 win, .int .i64 thr, .int .i64 rep, .int .u32 un, .bool mend, meth k g, meth l g])
    (e0 : m = m') (e1 : win = win') (e2 : thr = thr') (e3 : rep = rep') (e4 : un = un') (e5 : mend = mend') (e6 : k = k') (e7 : l = l') : Snd w g m' win' thr' rep' un' mend' k' l' := by
  subst e0 e1 e2 e3 e4 e5 e6 e7; exact h
def Ref (w : World) (g : Nat) (m win thr rep un : Int) (mend : Bool) : Prop :=
  Ob w g 66 #[.int .i64 m, .int .i64 win, .int .i64 thr, .int .i64 rep, .bool mend, .int .u32 un]
theorem Ref.mk {w : World} {g : Nat} {m m' win win' thr thr' rep rep' un un' : Int} {mend mend' : Bool} (h : Ob w g 66 #[.int .i64 m, .int .i64 win, .int .i64 thr, .int .i64 rep, .bool mend, .int .u32 un])
    (e0 : m = m') (e1 : win = win') (e2 : thr = thr') (e3 : rep = rep') (e4 : un = un') (e5 : mend = mend') : Ref w g m' win' thr' rep' un' mend' := by
  subst e0 e1 e2 e3 e4 e5; exact h
theorem open1 (g : Nat) (w : World) (m win thr rep un : Int) (mend : Bool) (c6 c7 : Value) (h : Ob w g 84 #[.int .i64 m, .int .i64 win, .int .i64 thr, .int .i64 rep, .int .u32 un, .bool mend, c6, c7]) :
   Calls Try.prog 50 #[.pointer (some ⟨g, 0, none⟩)] w fun e w' => e = .returned (.tuple #[]) ∧ Only [g] w w' ∧ Snd w' g m win thr 0 un false 56 57 := by
  have h0 := h.cell 0
  have h1 := h.cell 1
  have h2 := h.cell 2
  have h3 := h.cell 3
  have h4 := h.cell 4
  have h5 := h.cell 5
  have h6 := h.cell 6
  have h7 := h.cell 7
  have f3 := h.frozen 3
  have f5 := h.frozen 5
  have f6 := h.frozen 6
  have f7 := h.frozen 7
  have H := hid h; clear h
  go_enter Try.func50, Try.ntmps50
  go_wp2
  refine bodyPost_end (results_none rfl _ _ _) rfl ?_
  exact ⟨rfl, (by repeat (first | exact Only.refl _ _ | refine Only.setCell ?_ (Or.inl (by simp)) _)), (((H.out.set 3 _).set 5 _).set 6 _).set 7 _⟩
theorem mend1 (g : Nat) (w : World) (m win thr rep un nx : Int) (mend : Bool) (k l : Nat) (h : Snd w g m win thr rep un mend k l) :
   Calls Try.prog 61 #[.pointer (some ⟨g, 0, none⟩), .int .u32 nx] w fun e w' => e = .returned (.tuple #[]) ∧ Only [g] w w' ∧ Snd w' g m win thr rep nx true 62 63 := by
  have h0 := h.cell 0
  have h1 := h.cell 1
  have h2 := h.cell 2
  have h3 := h.cell 3
  have h4 := h.cell 4
  have h5 := h.cell 5
  have h6 := h.cell 6
  have h7 := h.cell 7
  have f4 := h.frozen 4
  have f5 := h.frozen 5
  have f6 := h.frozen 6
  have f7 := h.frozen 7
  have H := hid h; clear h
  go_enter Try.func61, Try.ntmps61
  go_wp2
  refine bodyPost_end (results_none rfl _ _ _) rfl ?_
  exact ⟨rfl, (by repeat (first | exact Only.refl _ _ | refine Only.setCell ?_ (Or.inl (by simp)) _)), (((H.out.set 4 _).set 5 _).set 6 _).set 7 _⟩
def halfF (m f : Int) : Int := max (max f 0 / 2) (2 * m)
theorem half1 (g : Nat) (w : World) (m win thr rep un f : Int) (mend : Bool) (k l : Nat) (h : Snd w g m win thr rep un mend k l) (hm : 1 ≤ m ∧ m ≤ 65535) (hf : f ≤ 9223372036854775807) :
   Calls Try.prog 53 #[.pointer (some ⟨g, 0, none⟩), .int .i64 f] w fun e w' => e = .returned (.int .i64 (halfF m f)) ∧ w' = w := by
  have h0 := h.cell 0
  have H := hid h; clear h
  have HF : Hid (halfF m f = max (max f 0 / 2) (2 * m)) := hid rfl
  go_enter Try.func53, Try.ntmps53
  go_wp2
  all_goals
    go_ret
    exact ⟨rInt (by have q := HF.out; omega), rfl⟩
theorem half2 (g : Nat) (w : World) (m win thr rep un f : Int) (mend : Bool) (h : Ref w g m win thr rep un mend) (hm : 1 ≤ m ∧ m ≤ 65535) (hf : f ≤ 9223372036854775807) :
   Calls Try.prog 52 #[.pointer (some ⟨g, 0, none⟩), .int .i64 f] w fun e w' => e = .returned (.int .i64 (halfF m f)) ∧ w' = w := by
  have h0 := h.cell 0
  have H := hid h; clear h
  have HF : Hid (halfF m f = max (max f 0 / 2) (2 * m)) := hid rfl
  go_enter Try.func52, Try.ntmps52
  go_wp2
  all_goals
    go_ret
    exact ⟨rInt (by have q := HF.out; omega), rfl⟩
def dif (a b : Int) : Int := ((a - b) % 4294967296 + 2147483648) % 4294967296 - 2147483648
theorem dif_64 (a b : Int) : wrap64 (wrap32 ((a - b) % 4294967296)) = dif a b := by
  unfold dif wrap32
  exact wrap64_in _ (by omega)
theorem diff1 (a b : Int) (w : World) :
    Calls Try.prog 65 #[.int .u32 a, .int .u32 b] w fun e w' => e = .returned (.int .i64 (dif a b)) ∧ w' = w := by
  go_enter Try.func65, Try.ntmps65
  go_wp2
  go_ret
  exact ⟨rInt (dif_64 a b), rfl⟩
theorem diff2 (a b : Int) (w : World) :
    Calls Try.prog 58 #[.int .u32 a, .int .u32 b] w fun e w' => e = .returned (.int .i64 (dif a b)) ∧ w' = w := by
  go_enter Try.func58, Try.ntmps58
  go_wp2
  go_ret
  exact ⟨rInt (dif_64 a b), rfl⟩
def lessB (a b : Int) : Bool := decide (dif a b < 0)
theorem less1 (a b : Int) (w : World) :
    Calls Try.prog 64 #[.int .u32 a, .int .u32 b] w fun e w' => e = .returned (.bool (lessB a b)) ∧ w' = w := by
  go_enter Try.func64, Try.ntmps64
  go_wp2_with (go_at_call 65; refine (diff1 _ _ _).mono ?_; rintro e w' ⟨rfl, rfl⟩)
  go_ret
  exact ⟨rfl, rfl⟩
theorem less2 (a b : Int) (w : World) :
    Calls Try.prog 51 #[.int .u32 a, .int .u32 b] w fun e w' => e = .returned (.bool (lessB a b)) ∧ w' = w := by
  go_enter Try.func51, Try.ntmps51
  go_wp2_with (go_at_call 58; refine (diff2 _ _ _).mono ?_; rintro e w' ⟨rfl, rfl⟩)
  go_ret
  exact ⟨rfl, rfl⟩
end Go.Proofs.Ytoogifoopafghab.cng
