/-
  Chapter 11 (udp): both Encodes of what does not serve, by a walk of each text. Conditions: none but those typed.
-/
import Derived.Test.YtnhakcgkhhficaaUdpC
namespace Go.Proofs.Ytnhakcgkhhficaa.udp
set_option linter.unusedVariables false
set_option linter.unusedSimpArgs false
open Go.ChangeShapes Go.WideShapes Go.ChangeAt Go.RowKit Go.IntWalk Go.Lib
set_option maxHeartbeats 2000000 in
theorem encA (w : World) (fr fp to tp : Int) (A : Option Addr) (n c : Nat) (h : fp < 0 ∨ 65535 < fp) :
    Calls Try.prog 20 #[.agg #[.int .u32 fr, .int .i64 fp, .int .u32 to, .int .i64 tp, .slice A n c]] w fun x w' => x = .returned (.tuple #[.slice none 0 0, .int .i64 1]) ∧ Only [] w w' := by
  have OB : Hid (Ob (w.alloc (.cells #[.int .u32 fr, .int .i64 fp, .int .u32 to, .int .i64 tp, .slice A n c] 32)) w.heap.size 32 #[.int .u32 fr, .int .i64 fp, .int .u32 to, .int .i64 tp, .slice A n c]) := hid (Ob.new _ _ _)
  have QB : Hid (Only [] w (w.alloc (.cells #[.int .u32 fr, .int .i64 fp, .int .u32 to, .int .i64 tp, .slice A n c] 32))) := hid ((Only.refl [] w).alloc _)
  go_enter Try.func20, Try.ntmps20
  go_wp2_with fail
  refine (port0 _ fp 0 h).mono ?_
  rintro x w1 ⟨rfl, hw⟩
  subst hw
  go_wp2
  go_ret2
  exact ⟨rfl, QB.out⟩
set_option maxHeartbeats 2000000 in
theorem encB_ (w : World) (fr fp to tp : Int) (A : Option Addr) (n c : Nat) (h1 : 0 ≤ fp) (h2 : fp ≤ 65535) (h : tp < 0 ∨ 65535 < tp) :
    Calls Try.prog 20 #[.agg #[.int .u32 fr, .int .i64 fp, .int .u32 to, .int .i64 tp, .slice A n c]] w fun x w' => x = .returned (.tuple #[.slice none 0 0, .int .i64 1]) ∧ Only [] w w' := by
  have OB : Hid (Ob (w.alloc (.cells #[.int .u32 fr, .int .i64 fp, .int .u32 to, .int .i64 tp, .slice A n c] 32)) w.heap.size 32 #[.int .u32 fr, .int .i64 fp, .int .u32 to, .int .i64 tp, .slice A n c]) := hid (Ob.new _ _ _)
  have QB : Hid (Only [] w (w.alloc (.cells #[.int .u32 fr, .int .i64 fp, .int .u32 to, .int .i64 tp, .slice A n c] 32))) := hid ((Only.refl [] w).alloc _)
  have k3 := OB.out.cell 3
  go_enter Try.func20, Try.ntmps20
  go_wp2_with fail
  refine (port1 _ fp 0 h1 h2).mono ?_
  rintro x w1 ⟨rfl, hw⟩
  subst hw
  go_wp2_with fail
  refine (port0 _ tp 0 h).mono ?_
  rintro x w1 ⟨rfl, hw⟩
  subst hw
  go_wp2
  go_ret2
  exact ⟨rfl, QB.out⟩
set_option maxHeartbeats 2000000 in
theorem encC (w : World) (fr fp to tp : Int) (A : Option Addr) (n c : Nat) (hg : Good fp tp) (h : 65507 < n) :
    Calls Try.prog 20 #[.agg #[.int .u32 fr, .int .i64 fp, .int .u32 to, .int .i64 tp, .slice A n c]] w fun x w' => x = .returned (.tuple #[.slice none 0 0, .int .i64 5]) ∧ Only [] w w' := by
  have OB : Hid (Ob (w.alloc (.cells #[.int .u32 fr, .int .i64 fp, .int .u32 to, .int .i64 tp, .slice A n c] 32)) w.heap.size 32 #[.int .u32 fr, .int .i64 fp, .int .u32 to, .int .i64 tp, .slice A n c]) := hid (Ob.new _ _ _)
  have QB : Hid (Only [] w (w.alloc (.cells #[.int .u32 fr, .int .i64 fp, .int .u32 to, .int .i64 tp, .slice A n c] 32))) := hid ((Only.refl [] w).alloc _)
  have k3 := OB.out.cell 3; have k4 := OB.out.cell 4
  obtain ⟨⟨g1, g2⟩, g3, g4⟩ := hg
  go_enter Try.func20, Try.ntmps20
  go_wp2_with fail
  refine (port1 _ fp 0 g1 g2).mono ?_
  rintro x w1 ⟨rfl, hw⟩
  subst hw
  go_wp2_with fail
  refine (port1 _ tp 0 g3 g4).mono ?_
  rintro x w1 ⟨rfl, hw⟩
  subst hw
  go_wp2
  go_ret2
  exact ⟨rfl, QB.out⟩
set_option maxHeartbeats 2000000 in
theorem rbad0 (w : World) (fr fp to tp : Int) (A : Option Addr) (n c : Nat)  (h : (fp < 0)) :
    Calls Try.prog 21 #[.agg #[.int .u32 fr, .int .i64 fp, .int .u32 to, .int .i64 tp, .slice A n c]] w fun x w' => x = .returned (.tuple #[.slice none 0 0, .int .i64 1]) ∧ Only [] w w' := by
  have OB : Hid (Ob (w.alloc (.cells #[.int .u32 fr, .int .i64 fp, .int .u32 to, .int .i64 tp, .slice A n c] 32)) w.heap.size 32 #[.int .u32 fr, .int .i64 fp, .int .u32 to, .int .i64 tp, .slice A n c]) := hid (Ob.new _ _ _)
  have QB : Hid (Only [] w (w.alloc (.cells #[.int .u32 fr, .int .i64 fp, .int .u32 to, .int .i64 tp, .slice A n c] 32))) := hid ((Only.refl [] w).alloc _)
  have dd : decide (fp < 0) = true := by simpa using h
  go_enter Try.func21, Try.ntmps21
  go_wp2
  go_ret2
  exact ⟨rfl, QB.out⟩
set_option maxHeartbeats 2000000 in
theorem rbad1 (w : World) (fr fp to tp : Int) (A : Option Addr) (n c : Nat) (p0 : ¬ (fp < 0)) (h : (65535 < fp)) :
    Calls Try.prog 21 #[.agg #[.int .u32 fr, .int .i64 fp, .int .u32 to, .int .i64 tp, .slice A n c]] w fun x w' => x = .returned (.tuple #[.slice none 0 0, .int .i64 1]) ∧ Only [] w w' := by
  have OB : Hid (Ob (w.alloc (.cells #[.int .u32 fr, .int .i64 fp, .int .u32 to, .int .i64 tp, .slice A n c] 32)) w.heap.size 32 #[.int .u32 fr, .int .i64 fp, .int .u32 to, .int .i64 tp, .slice A n c]) := hid (Ob.new _ _ _)
  have QB : Hid (Only [] w (w.alloc (.cells #[.int .u32 fr, .int .i64 fp, .int .u32 to, .int .i64 tp, .slice A n c] 32))) := hid ((Only.refl [] w).alloc _)
  have d0 : decide (fp < 0) = false := by simpa using p0
  have dd : decide (65535 < fp) = true := by simpa using h
  go_enter Try.func21, Try.ntmps21
  go_wp2
  go_ret2
  exact ⟨rfl, QB.out⟩
set_option maxHeartbeats 2000000 in
theorem rbad2 (w : World) (fr fp to tp : Int) (A : Option Addr) (n c : Nat) (p0 : ¬ (fp < 0)) (p1 : ¬ (65535 < fp)) (h : (tp < 0)) :
    Calls Try.prog 21 #[.agg #[.int .u32 fr, .int .i64 fp, .int .u32 to, .int .i64 tp, .slice A n c]] w fun x w' => x = .returned (.tuple #[.slice none 0 0, .int .i64 1]) ∧ Only [] w w' := by
  have OB : Hid (Ob (w.alloc (.cells #[.int .u32 fr, .int .i64 fp, .int .u32 to, .int .i64 tp, .slice A n c] 32)) w.heap.size 32 #[.int .u32 fr, .int .i64 fp, .int .u32 to, .int .i64 tp, .slice A n c]) := hid (Ob.new _ _ _)
  have QB : Hid (Only [] w (w.alloc (.cells #[.int .u32 fr, .int .i64 fp, .int .u32 to, .int .i64 tp, .slice A n c] 32))) := hid ((Only.refl [] w).alloc _)
  have d0 : decide (fp < 0) = false := by simpa using p0
  have d1 : decide (65535 < fp) = false := by simpa using p1
  have dd : decide (tp < 0) = true := by simpa using h
  go_enter Try.func21, Try.ntmps21
  go_wp2
  go_ret2
  exact ⟨rfl, QB.out⟩
set_option maxHeartbeats 2000000 in
theorem rbad3 (w : World) (fr fp to tp : Int) (A : Option Addr) (n c : Nat) (p0 : ¬ (fp < 0)) (p1 : ¬ (65535 < fp)) (p2 : ¬ (tp < 0)) (h : (65535 < tp)) :
    Calls Try.prog 21 #[.agg #[.int .u32 fr, .int .i64 fp, .int .u32 to, .int .i64 tp, .slice A n c]] w fun x w' => x = .returned (.tuple #[.slice none 0 0, .int .i64 1]) ∧ Only [] w w' := by
  have OB : Hid (Ob (w.alloc (.cells #[.int .u32 fr, .int .i64 fp, .int .u32 to, .int .i64 tp, .slice A n c] 32)) w.heap.size 32 #[.int .u32 fr, .int .i64 fp, .int .u32 to, .int .i64 tp, .slice A n c]) := hid (Ob.new _ _ _)
  have QB : Hid (Only [] w (w.alloc (.cells #[.int .u32 fr, .int .i64 fp, .int .u32 to, .int .i64 tp, .slice A n c] 32))) := hid ((Only.refl [] w).alloc _)
  have d0 : decide (fp < 0) = false := by simpa using p0
  have d1 : decide (65535 < fp) = false := by simpa using p1
  have d2 : decide (tp < 0) = false := by simpa using p2
  have dd : decide (65535 < tp) = true := by simpa using h
  go_enter Try.func21, Try.ntmps21
  go_wp2
  go_ret2
  exact ⟨rfl, QB.out⟩
set_option maxHeartbeats 2000000 in
theorem rlong (w : World) (fr fp to tp : Int) (A : Option Addr) (n c : Nat) (hg : Good fp tp) (h : 65507 < n) :
    Calls Try.prog 21 #[.agg #[.int .u32 fr, .int .i64 fp, .int .u32 to, .int .i64 tp, .slice A n c]] w fun x w' => x = .returned (.tuple #[.slice none 0 0, .int .i64 5]) ∧ Only [] w w' := by
  have OB : Hid (Ob (w.alloc (.cells #[.int .u32 fr, .int .i64 fp, .int .u32 to, .int .i64 tp, .slice A n c] 32)) w.heap.size 32 #[.int .u32 fr, .int .i64 fp, .int .u32 to, .int .i64 tp, .slice A n c]) := hid (Ob.new _ _ _)
  have QB : Hid (Only [] w (w.alloc (.cells #[.int .u32 fr, .int .i64 fp, .int .u32 to, .int .i64 tp, .slice A n c] 32))) := hid ((Only.refl [] w).alloc _)
  obtain ⟨⟨g1, g2⟩, g3, g4⟩ := hg
  go_enter Try.func21, Try.ntmps21
  go_wp2
  go_ret2
  exact ⟨rfl, QB.out⟩
/-- What both Encodes say. -/
inductive Says (fr fp to tp : Int) (l : List Int) (n : Nat) : Int → List Int → Prop
  | bad (h : ¬ Good fp tp) : Says fr fp to tp l n 1 []
  | long (hg : Good fp tp) (h : 65507 < n) : Says fr fp to tp l n 5 []
  | ok (hg : Good fp tp) (h : n ≤ 65507) : Says fr fp to tp l n 0 (encU fr fp to tp l)
theorem says_any (fr fp to tp : Int) (l : List Int) (n : Nat) : ∃ er ls, Says fr fp to tp l n er ls := by
  by_cases hg : Good fp tp
  · by_cases h : 65507 < n
    · exact ⟨_, _, .long hg h⟩
    · exact ⟨_, _, .ok hg (by omega)⟩
  · exact ⟨_, _, .bad hg⟩
theorem nil_of {w w' : World} {x : Ending} {er : Int} (h : x = .returned (.tuple #[.slice none 0 0, .int .i64 er]) ∧ Only [] w w') : ∃ v, x = .returned (.tuple #[v, .int .i64 er]) ∧ Own .u8 5 w' w.heap.size v [] ∧ Only [] w w' := ⟨_, h.1, Own.nil _ _ _ _, h.2⟩
theorem encAny (w : World) (fr fp to tp : Int) (A : Option Addr) (n c : Nat) (l : List Int) (er : Int) (ls : List Int) (hl : Rd .u8 w A n l) (hc0 : A = none → c = 0) (h : Says fr fp to tp l n er ls) :
    Calls Try.prog 20 #[.agg #[.int .u32 fr, .int .i64 fp, .int .u32 to, .int .i64 tp, .slice A n c]] w fun x w' => ∃ v, x = .returned (.tuple #[v, .int .i64 er]) ∧ Own .u8 5 w' w.heap.size v ls ∧ Only [] w w' := by
  cases h with
  | bad h =>
    by_cases h1 : 0 ≤ fp ∧ fp ≤ 65535
    · exact (encB_ w fr fp to tp A n c h1.1 h1.2 (by unfold Good at h; omega)).mono fun _ _ => nil_of
    · exact (encA w fr fp to tp A n c (by omega)).mono fun _ _ => nil_of
  | long hg h => exact (encC w fr fp to tp A n c hg h).mono fun _ _ => nil_of
  | ok hg h => exact enc1 w fr fp to tp A n c l hl hc0 hg h
theorem rencAny (w : World) (fr fp to tp : Int) (A : Option Addr) (n c : Nat) (l : List Int) (er : Int) (ls : List Int) (hl : Rd .u8 w A n l) (hc0 : A = none → c = 0) (h : Says fr fp to tp l n er ls) :
    Calls Try.prog 21 #[.agg #[.int .u32 fr, .int .i64 fp, .int .u32 to, .int .i64 tp, .slice A n c]] w fun x w' => ∃ v, x = .returned (.tuple #[v, .int .i64 er]) ∧ Own .u8 5 w' w.heap.size v ls ∧ Only [] w w' := by
  cases h with
  | bad h =>
    by_cases h0 : fp < 0
    · exact (rbad0 w fr fp to tp A n c h0).mono fun _ _ => nil_of
    · by_cases h1 : 65535 < fp
      · exact (rbad1 w fr fp to tp A n c h0 h1).mono fun _ _ => nil_of
      · by_cases h2 : tp < 0
        · exact (rbad2 w fr fp to tp A n c h0 h1 h2).mono fun _ _ => nil_of
        · exact (rbad3 w fr fp to tp A n c h0 h1 h2 (by unfold Good at h; omega)).mono fun _ _ => nil_of
  | long hg h => exact (rlong w fr fp to tp A n c hg h).mono fun _ _ => nil_of
  | ok hg h => exact renc w fr fp to tp A n c l hl hc0 hg h
end Go.Proofs.Ytnhakcgkhhficaa.udp
