/-
  Chapter 14 (segment): Encode, by a walk of its text. Conditions: none but those typed.
-/
import Derived.Test.YtiiajkfaikeenaaGreatSegCh
namespace Go.Proofs.YtiiajkfaikeenaaGreat.seg
set_option linter.unusedVariables false
set_option linter.unusedSimpArgs false
open Go.ChangeShapes Go.WideShapes Go.ChangeAt Go.RowKit Go.IntWalk Go.Lib
theorem own_cap {w : World} {base : Nat} {v : Value} {l : List Int} {A : Option Addr} {n cap : Nat} (h : Own .u8 5 w base v l) (e : v = .slice A n cap) : A = none → cap = 0 := by
  intro h0
  rcases h.1.2 with ⟨hv, _⟩ | ⟨g', cap', cur, hv, _⟩
  · rw [e] at hv; injection hv
  · rw [e, h0] at hv; cases hv
/-- The sum that is written into a segment. -/
def sumS (fr to sq ac fp tp fl wi : Int) (o l : List Int) : Int := oct.sumF (psd fr to 6 (20 + o.length + l.length : Nat) ++ body fp tp sq ac fl wi 0 o l)
/-- What Encode writes. -/
def encB (fr to sq ac fp tp fl wi ms sc : Int) (l : List Int) : List Int := body fp tp sq ac fl wi (sumS fr to sq ac fp tp fl wi (opt ms sc) l) (opt ms sc) l
theorem encB_len (fr to sq ac fp tp fl wi ms sc : Int) (l : List Int) : (encB fr to sq ac fp tp fl wi ms sc l).length = 20 + (opt ms sc).length + l.length := by
  unfold encB; rw [body_len]
set_option maxHeartbeats 4000000 in
theorem encE (w : World) (fr to sq ac : Int) (fp tp fl wi ms sc : Int) (A : Option Addr) (n c : Nat) (h : chk fp tp fl wi ms sc n ≠ 0) :
    Calls Tryz.prog 34 #[.agg #[.int .u32 fr, .int .i64 fp, .int .u32 to, .int .i64 tp, .int .u32 sq, .int .u32 ac, .int .i64 fl, .int .i64 wi, .int .i64 ms, .int .i64 sc, .slice A n c]] w fun x w' => x = .returned (.tuple #[.slice none 0 0, .int .i64 (chk fp tp fl wi ms sc n)]) ∧ Only [] w w' := by
  have d1 : (chk fp tp fl wi ms sc n != 0) = true := by simpa using h
  have HD := hid d1; clear d1 h
  go_enter Tryz.func34, Tryz.ntmps34
  go_wp2_with fail
  refine (check1 _ fr to sq ac fp tp fl wi ms sc A n c).mono ?_
  rintro x w1 ⟨rfl, o1⟩
  have Q1 := hid (((Only.refl [] w).alloc _).trans o1); clear o1
  have d1 := HD.out
  generalize hE : chk fp tp fl wi ms sc n = er at *
  have HE := hid hE; clear hE
  go_wp2
  go_ret2
  exact ⟨by rw [HE.out]; rfl, Q1.out⟩
set_option maxHeartbeats 4000000 in
theorem enc1 (w : World) (fr to sq ac : Int) (fp tp fl wi ms sc : Int) (A : Option Addr) (n c : Nat) (l : List Int) (hl : Rd .u8 w A n l) (hc0 : A = none → c = 0) (hn : n ≤ 70000) (h : chk fp tp fl wi ms sc n = 0) :
    Calls Tryz.prog 34 #[.agg #[.int .u32 fr, .int .i64 fp, .int .u32 to, .int .i64 tp, .int .u32 sq, .int .u32 ac, .int .i64 fl, .int .i64 wi, .int .i64 ms, .int .i64 sc, .slice A n c]] w fun x w' => ∃ v, x = .returned (.tuple #[v, .int .i64 0]) ∧ Own .u8 5 w' w.heap.size v (encB fr to sq ac fp tp fl wi ms sc l) ∧ Only [] w w' := by
  have HLen := hid hl.len
  have HL := hid hl; clear hl
  have HC := hid hc0; clear hc0
  have HD := hid h; clear h
  have OB : Hid (Ob (w.alloc (.cells #[.int .u32 fr, .int .i64 fp, .int .u32 to, .int .i64 tp, .int .u32 sq, .int .u32 ac, .int .i64 fl, .int .i64 wi, .int .i64 ms, .int .i64 sc, .slice A n c] 28)) w.heap.size 28 #[.int .u32 fr, .int .i64 fp, .int .u32 to, .int .i64 tp, .int .u32 sq, .int .u32 ac, .int .i64 fl, .int .i64 wi, .int .i64 ms, .int .i64 sc, .slice A n c]) := hid (Ob.new _ _ _)
  have QB : Hid (Only [] w (w.alloc (.cells #[.int .u32 fr, .int .i64 fp, .int .u32 to, .int .i64 tp, .int .u32 sq, .int .u32 ac, .int .i64 fl, .int .i64 wi, .int .i64 ms, .int .i64 sc, .slice A n c] 28))) := hid ((Only.refl [] w).alloc _)
  have HBL : Hid (∀ s, (body fp tp sq ac fl wi s (opt ms sc) l).length = 20 + (opt ms sc).length + n) := hid (by intro s; rw [body_len, HLen.out])
  have HOL := hid (opt_len ms sc)
  have HSU : Hid (sumS fr to sq ac fp tp fl wi (opt ms sc) l = oct.sumF (psd fr to 6 ((body fp tp sq ac fl wi 0 (opt ms sc) l).length : Nat) ++ body fp tp sq ac fl wi 0 (opt ms sc) l)) := hid (by unfold sumS; rw [body_len])
  have HEN : Hid (encB fr to sq ac fp tp fl wi ms sc l = body fp tp sq ac fl wi (sumS fr to sq ac fp tp fl wi (opt ms sc) l) (opt ms sc) l) := hid rfl
  go_enter Tryz.func34, Tryz.ntmps34
  go_wp2_with fail
  refine (check1 _ fr to sq ac fp tp fl wi ms sc A n c).mono ?_
  rintro x w1 ⟨rfl, o1⟩
  rw [HD.out]
  have OB := hid (OB.out.only o1 (by simp)); have QB := hid (QB.out.trans o1); clear o1
  have k0 := OB.out.cell 0; have k1 := OB.out.cell 1; have k2 := OB.out.cell 2; have k3 := OB.out.cell 3; have k4 := OB.out.cell 4; have k5 := OB.out.cell 5; have k6 := OB.out.cell 6; have k7 := OB.out.cell 7; have k8 := OB.out.cell 8; have k9 := OB.out.cell 9; have k10 := OB.out.cell 10
  go_wp2_with fail
  have OB := hid OB.out.drew; have QB := hid QB.out.drew
  go_region_held3 (fun w' => w'.cell? ⟨w.heap.size, 0, none⟩ = some (.int .u32 fr) ∧ w'.cell? ⟨w.heap.size, 1, none⟩ = some (.int .i64 fp) ∧ w'.cell? ⟨w.heap.size, 2, none⟩ = some (.int .u32 to) ∧ w'.cell? ⟨w.heap.size, 3, none⟩ = some (.int .i64 tp) ∧ w'.cell? ⟨w.heap.size, 4, none⟩ = some (.int .u32 sq) ∧ w'.cell? ⟨w.heap.size, 5, none⟩ = some (.int .u32 ac) ∧ w'.cell? ⟨w.heap.size, 6, none⟩ = some (.int .i64 fl) ∧ w'.cell? ⟨w.heap.size, 7, none⟩ = some (.int .i64 wi) ∧ w'.cell? ⟨w.heap.size, 8, none⟩ = some (.int .i64 ms) ∧ w'.cell? ⟨w.heap.size, 9, none⟩ = some (.int .i64 sc) ∧ w'.cell? ⟨w.heap.size, 10, none⟩ = some (.slice A n c)) (go_keep) (first
    | (go_at_call 68; refine (sums1 _ fr to _ _ _ _ RV.out RC.out (by rw [HBL.out]; have h8 := HOL.out; omega)).mono ?_; rintro x w2 ⟨rfl, q2⟩; rw [← HSU.out]; have OB := hid (OB.out.only q2 (by simp)); have QB := hid (QB.out.trans q2); clear q2; have k0 := OB.out.cell 0; have k1 := OB.out.cell 1; have k2 := OB.out.cell 2; have k3 := OB.out.cell 3; have k4 := OB.out.cell 4; have k5 := OB.out.cell 5; have k6 := OB.out.cell 6; have k7 := OB.out.cell 7; have k8 := OB.out.cell 8; have k9 := OB.out.cell 9; have k10 := OB.out.cell 10)
    | (go_at_call 67; refine (write1 _ fr to sq ac fp tp fl wi ms sc A n c _ l (HL.out.only_nil QB.out) HC.out hn).mono ?_; rintro x w2 ⟨v1, rfl, o1, q1⟩; have sz := QB.out.size; have OM := hid (o1.mono_base sz); clear sz; have OB := hid (OB.out.only q1 (by simp)); have QB := hid (QB.out.trans q1); obtain ⟨A1, cap1, ev1, _, _, r1, _⟩ := o1.slice; have RV := hid r1; have RC := hid (own_cap o1 ev1); subst ev1; clear o1 q1 r1; have k0 := OB.out.cell 0; have k1 := OB.out.cell 1; have k2 := OB.out.cell 2; have k3 := OB.out.cell 3; have k4 := OB.out.cell 4; have k5 := OB.out.cell 5; have k6 := OB.out.cell 6; have k7 := OB.out.cell 7; have k8 := OB.out.cell 8; have k9 := OB.out.cell 9; have k10 := OB.out.cell 10))
  clear k0 k1 k2 k3 k4 k5 k6 k7 k8 k9 k10
  go_wp2
  go_ret2
  exact ⟨_, rfl, by rw [HEN.out]; exact OM.out, QB.out⟩
end Go.Proofs.YtiiajkfaikeenaaGreat.seg
