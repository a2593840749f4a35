/-
  Chapter 23 (lease): four, readOption and readOptions of the program over options as Encode writes them, by a walk of each text. Conditions: none but those typed.
-/
import Derived.Test.YtdpmjghdmpaehaaLsC
import Derived.Test.YtdpmjghdmpaehaaRdr
import Derived.Deep.LoopGhost
namespace Go.Proofs.Ytdpmjghdmpaehaa.ls
set_option linter.unusedVariables false
set_option linter.unusedSimpArgs false
open Go.ChangeShapes Go.WideShapes Go.ChangeAt Go.RowKit Go.IntWalk Go.Lib
/-- Four bytes of a number. -/
def f4 (v : Int) : List Int := [v / 16777216 % 256, v / 65536 % 256, v / 256 % 256, v % 256]
theorem num_f4 (v : Int) (h : 0 ≤ v ∧ v ≤ 4294967295) : rdr.num (f4 v) = v := by
  simp only [rdr.num, f4, List.foldl]
  omega
theorem four23 (w : World) (b off n c : Nat) (l : List Int) (v : Int) (hl : Rd .u8 w (some ⟨b, off, none⟩) n l) (h4 : l.take 4 = f4 v) (hnc : n ≤ c) (hcm : c ≤ maxLen) (hv : 0 ≤ v ∧ v ≤ 4294967295) :
    Calls Try.prog 39 #[.slice (some ⟨b, off, none⟩) n c] w fun x w' => x = .returned (.int .u32 v) ∧ Only [] w w' := by
  have hn4 : 4 ≤ n := by
    have h9 := congrArg List.length h4
    rw [List.length_take, hl.len] at h9
    simp [f4] at h9
    omega
  have HT := hid (hl.take 4 hn4)
  have hcc : c ≤ 9223372036854775807 := by simp only [maxLen] at hcm; omega
  have hc4 : (4 : Int) ≤ (c : Int) := by omega
  have hc0 : ¬ (c : Int) = 0 := by omega
  have HE := hid h4
  clear hl hcm h4
  go_enter Try.func39, Try.ntmps39
  go_wp2_with fail
  refine (rdr.new1 w (some ⟨b, off, none⟩) 4 c _ HT.out (by intro e; cases e) (by omega)).mono ?_
  rintro x w1 ⟨r, e, p, rfl, hr, o1⟩
  have HR := hid hr; have O1 := hid o1
  have hlow := hr.lows
  clear hr o1
  go_wp2_with fail
  refine (rdr.four_ok w1 _ _ r e p _ HR.out (by rw [HE.out]; simp [f4])).mono ?_
  rintro x w2 ⟨rfl, _, o2⟩
  have Q2 : Hid (Only [] w w2) := hid (Only.fresh O1.out o2 (fun i hi => .inr (by
    simp only [List.mem_cons, List.not_mem_nil, or_false] at hi
    rcases hi with rfl | rfl
    · exact hlow.1
    · exact hlow.2.1)))
  rw [List.take_take, Nat.min_self, HE.out, num_f4 v hv]
  clear o2
  go_wp2_with fail
  go_ret
  exact ⟨rfl, Q2.out⟩
structure Ls where
  op : Int
  id : Int
  yo : Int
  c0 : Int
  c1 : Int
  c2 : Int
  c3 : Int
  c4 : Int
  c5 : Int
  ty : Int
  sv : Int
  ak : Int
  ti : Int
  ma : Int
  ro : Int
  re : Int
def Ls.cs (s : Ls) : Array Value := #[.int .i64 s.op, .int .u32 s.id, .int .u32 s.yo, .int .u8 s.c0, .int .u8 s.c1, .int .u8 s.c2, .int .u8 s.c3, .int .u8 s.c4, .int .u8 s.c5, .int .i64 s.ty, .int .u32 s.sv, .int .u32 s.ak, .int .i64 s.ti, .int .u32 s.ma, .int .u32 s.ro, .int .u32 s.re]
def Ls.set (s : Ls) (k v : Int) : Ls := if k = 53 then {s with ty := v} else if k = 54 then {s with sv := v} else if k = 50 then {s with ak := v} else if k = 51 then {s with ti := v} else if k = 1 then {s with ma := v} else if k = 3 then {s with ro := v} else {s with re := v}
/-- An option that is written. -/
def OkO (k v : Int) : Prop := (k = 53 ∧ 1 ≤ v ∧ v ≤ 7) ∨ ((k = 54 ∨ k = 50 ∨ (k = 51 ∧ v ≤ 2147483647) ∨ k = 1 ∨ k = 3 ∨ k = 6) ∧ 0 ≤ v ∧ v ≤ 4294967295)
/-- Its bytes behind kind and length. -/
def ob (k v : Int) : List Int := if k = 53 then [v] else f4 v
def oball (k v : Int) : List Int := k :: ((ob k v).length : Int) :: ob k v
theorem ob_len (k v : Int) : (ob k v).length = if k = 53 then 1 else 4 := by unfold ob; split <;> rfl
theorem oball_len (k v : Int) : (oball k v).length = 2 + (ob k v).length := by unfold oball; simp; omega
set_option maxRecDepth 100000 in
set_option maxHeartbeats 4000000 in
theorem readOption1 (w : World) (g : Nat) (s : Ls) (k v : Int) (b off c : Nat) (hO : Ob w g 27 s.cs) (hk : OkO k v) (hr : Rd .u8 w (some ⟨b, off, none⟩) (ob k v).length (ob k v)) (hnc : (ob k v).length ≤ c) (hcm : c ≤ maxLen) :
    Calls Try.prog 61 #[.pointer (some ⟨g, 0, none⟩), .int .i64 k, .slice (some ⟨b, off, none⟩) (ob k v).length c] w fun x w' => x = .returned (.tuple #[]) ∧ Ob w' g 27 (s.set k v).cs ∧ Only [g] w w' := by
  have HO := hid hO; have HR := hid hr; have HCm := hid hcm
  clear hO hr hcm
  rcases hk with ⟨rfl, hv1, hv2⟩ | ⟨hk | hk | ⟨hk, hv3⟩ | hk | hk | hk, hv1, hv2⟩
  · have e1 : ob 53 v = [v] := rfl
    rw [e1] at HR hnc ⊢
    have hnc1 : 1 ≤ c := hnc
    have q0 : w.cell? ⟨b, off, none⟩ = some (.int .u8 v) := by
      have h9 := HR.out.cellD 0 (by simp)
      simpa using h9
    have c9 : w.cell? ⟨g, 9, none⟩ = some (.int .i64 s.ty) := HO.out.cell 9
    have f9 := HO.out.frozen 9
    have HS := hid (HO.out.set 9 (.int .i64 v)); have Q := hid ((Only.refl [g] w).setCell (p := ⟨g, 9, none⟩) (Or.inl (by simp)) (.int .i64 v))
    clear hnc e1
    go_enter Try.func61, Try.ntmps61
    go_wp2_with fail
    exact bodyPost_ret (v := .tuple #[]) (results_none rfl _ _ _) rfl ⟨rfl, HS.out, Q.out⟩
  · subst hk
    have e1 : ob 54 v = f4 v := rfl
    have e4 : (f4 v).length = 4 := rfl
    rw [e1, e4] at HR hnc
    rw [e1, e4]
    go_enter Try.func61, Try.ntmps61
    go_wp2_with fail
    refine (four23 w b off 4 c (f4 v) v HR.out rfl hnc HCm.out (by omega)).mono ?_
    rintro x w1 ⟨rfl, o1⟩
    have HO1 := hid (HO.out.only o1 (by simp))
    have cc : w1.cell? ⟨g, 10, none⟩ = some (.int .u32 s.sv) := HO1.out.cell 10
    have ff := HO1.out.frozen 10
    have HS := hid (HO1.out.set 10 (.int .u32 v)); have Q := hid (((o1.more (by simp) : Only [g] w w1)).setCell (p := ⟨g, 10, none⟩) (Or.inl (by simp)) (.int .u32 v))
    clear o1
    go_wp2_with fail
    refine bodyPost_end (results_none rfl _ _ _) rfl ?_
    exact ⟨rfl, HS.out, Q.out⟩
  · subst hk
    have e1 : ob 50 v = f4 v := rfl
    have e4 : (f4 v).length = 4 := rfl
    rw [e1, e4] at HR hnc
    rw [e1, e4]
    go_enter Try.func61, Try.ntmps61
    go_wp2_with fail
    refine (four23 w b off 4 c (f4 v) v HR.out rfl hnc HCm.out (by omega)).mono ?_
    rintro x w1 ⟨rfl, o1⟩
    have HO1 := hid (HO.out.only o1 (by simp))
    have cc : w1.cell? ⟨g, 11, none⟩ = some (.int .u32 s.ak) := HO1.out.cell 11
    have ff := HO1.out.frozen 11
    have HS := hid (HO1.out.set 11 (.int .u32 v)); have Q := hid (((o1.more (by simp) : Only [g] w w1)).setCell (p := ⟨g, 11, none⟩) (Or.inl (by simp)) (.int .u32 v))
    clear o1
    go_wp2_with fail
    refine bodyPost_end (results_none rfl _ _ _) rfl ?_
    exact ⟨rfl, HS.out, Q.out⟩
  · subst hk
    have e1 : ob 51 v = f4 v := rfl
    have e4 : (f4 v).length = 4 := rfl
    rw [e1, e4] at HR hnc
    rw [e1, e4]
    go_enter Try.func61, Try.ntmps61
    go_wp2_with fail
    refine (four23 w b off 4 c (f4 v) v HR.out rfl hnc HCm.out (by omega)).mono ?_
    rintro x w1 ⟨rfl, o1⟩
    have HO1 := hid (HO.out.only o1 (by simp))
    have cc : w1.cell? ⟨g, 12, none⟩ = some (.int .i64 s.ti) := HO1.out.cell 12
    have ff := HO1.out.frozen 12
    have HS := hid (HO1.out.set 12 (.int .i64 v)); have Q := hid (((o1.more (by simp) : Only [g] w w1)).setCell (p := ⟨g, 12, none⟩) (Or.inl (by simp)) (.int .i64 v))
    clear o1
    go_wp2_with fail
    refine bodyPost_end (results_none rfl _ _ _) rfl ?_
    exact ⟨rfl, HS.out, Q.out⟩
  · subst hk
    have e1 : ob 1 v = f4 v := rfl
    have e4 : (f4 v).length = 4 := rfl
    rw [e1, e4] at HR hnc
    rw [e1, e4]
    go_enter Try.func61, Try.ntmps61
    go_wp2_with fail
    refine (four23 w b off 4 c (f4 v) v HR.out rfl hnc HCm.out (by omega)).mono ?_
    rintro x w1 ⟨rfl, o1⟩
    have HO1 := hid (HO.out.only o1 (by simp))
    have cc : w1.cell? ⟨g, 13, none⟩ = some (.int .u32 s.ma) := HO1.out.cell 13
    have ff := HO1.out.frozen 13
    have HS := hid (HO1.out.set 13 (.int .u32 v)); have Q := hid (((o1.more (by simp) : Only [g] w w1)).setCell (p := ⟨g, 13, none⟩) (Or.inl (by simp)) (.int .u32 v))
    clear o1
    go_wp2_with fail
    refine bodyPost_end (results_none rfl _ _ _) rfl ?_
    exact ⟨rfl, HS.out, Q.out⟩
  · subst hk
    have e1 : ob 3 v = f4 v := rfl
    have e4 : (f4 v).length = 4 := rfl
    rw [e1, e4] at HR hnc
    rw [e1, e4]
    go_enter Try.func61, Try.ntmps61
    go_wp2_with fail
    refine (four23 w b off 4 c (f4 v) v HR.out rfl hnc HCm.out (by omega)).mono ?_
    rintro x w1 ⟨rfl, o1⟩
    have HO1 := hid (HO.out.only o1 (by simp))
    have cc : w1.cell? ⟨g, 14, none⟩ = some (.int .u32 s.ro) := HO1.out.cell 14
    have ff := HO1.out.frozen 14
    have HS := hid (HO1.out.set 14 (.int .u32 v)); have Q := hid (((o1.more (by simp) : Only [g] w w1)).setCell (p := ⟨g, 14, none⟩) (Or.inl (by simp)) (.int .u32 v))
    clear o1
    go_wp2_with fail
    refine bodyPost_end (results_none rfl _ _ _) rfl ?_
    exact ⟨rfl, HS.out, Q.out⟩
  · subst hk
    have e1 : ob 6 v = f4 v := rfl
    have e4 : (f4 v).length = 4 := rfl
    rw [e1, e4] at HR hnc
    rw [e1, e4]
    go_enter Try.func61, Try.ntmps61
    go_wp2_with fail
    refine (four23 w b off 4 c (f4 v) v HR.out rfl hnc HCm.out (by omega)).mono ?_
    rintro x w1 ⟨rfl, o1⟩
    have HO1 := hid (HO.out.only o1 (by simp))
    have cc : w1.cell? ⟨g, 15, none⟩ = some (.int .u32 s.re) := HO1.out.cell 15
    have ff := HO1.out.frozen 15
    have HS := hid (HO1.out.set 15 (.int .u32 v)); have Q := hid (((o1.more (by simp) : Only [g] w w1)).setCell (p := ⟨g, 15, none⟩) (Or.inl (by simp)) (.int .u32 v))
    clear o1
    go_wp2_with fail
    refine bodyPost_end (results_none rfl _ _ _) rfl ?_
    exact ⟨rfl, HS.out, Q.out⟩
theorem readOption2 (w : World) (g : Nat) (s : Ls) (k v : Int) (m b off c : Nat) (hm : (ob k v).length = m) (hO : Ob w g 27 s.cs) (hk : OkO k v) (hr : Rd .u8 w (some ⟨b, off, none⟩) m (ob k v)) (hnc : m ≤ c) (hcm : c ≤ maxLen) :
    Calls Try.prog 61 #[.pointer (some ⟨g, 0, none⟩), .int .i64 k, .slice (some ⟨b, off, none⟩) m c] w fun x w' => x = .returned (.tuple #[]) ∧ Ob w' g 27 (s.set k v).cs ∧ Only [g] w w' := by
  subst hm
  exact readOption1 w g s k v b off c hO hk hr hnc hcm
/-- Options one behind the other. -/
def obs : List (Int × Int) → List Int
  | [] => []
  | p :: r => oball p.1 p.2 ++ obs r
theorem obs_app (a b : List (Int × Int)) : obs (a ++ b) = obs a ++ obs b := by
  induction a with
  | nil => rfl
  | cons p r ih => show oball _ _ ++ obs (r ++ b) = (oball _ _ ++ obs r) ++ obs b; rw [ih, List.append_assoc]
def sets (s : Ls) (P : List (Int × Int)) : Ls := P.foldl (fun s p => s.set p.1 p.2) s
theorem sets_snoc (s : Ls) (P : List (Int × Int)) (p : Int × Int) : sets s (P ++ [p]) = (sets s P).set p.1 p.2 := by simp [sets]
theorem obs_drop {P : List (Int × Int)} {k : Nat} (h : k < P.length) : (obs P ++ [255]).drop (obs (P.take k)).length = oball (P[k]'h).1 (P[k]'h).2 ++ (obs (P.drop (k + 1)) ++ [255]) := by
  have e : obs P = obs (P.take k) ++ obs (P.drop k) := by rw [← obs_app, List.take_append_drop]
  rw [e, List.append_assoc, List.drop_left, List.drop_eq_getElem_cons h]
  show (oball _ _ ++ obs _) ++ _ = _
  rw [List.append_assoc]
def RoE (g : Nat) (s : Ls) (w : World) (x : Ending) (w' : World) : Prop := x = .returned (.int .i64 0) ∧ Ob w' g 27 s.cs ∧ Only [g] w w'
set_option maxRecDepth 100000 in
set_option maxHeartbeats 8000000 in
theorem readOptions1 (w : World) (g : Nat) (s : Ls) (P : List (Int × Int)) (b off n c : Nat) (hO : Ob w g 27 s.cs) (hP : ∀ p ∈ P, OkO p.1 p.2) (hr : Rd .u8 w (some ⟨b, off, none⟩) n (obs P ++ [255])) (hbg : b ≠ g) (hnc : n ≤ c) (hcm : c ≤ maxLen) (hn : n ≤ 100000) :
    Calls Try.prog 40 #[.pointer (some ⟨g, 0, none⟩), .slice (some ⟨b, off, none⟩) n c] w (RoE g (sets s P) w) := by
  have HR := hid hr; have HP := hid hP; have HO := hid hO; have HCm := hid hcm; have HN := hid hr.len
  have hcc : c ≤ 9223372036854775807 := by simp only [maxLen] at hcm; omega
  clear hr hP hO hcm
  go_enter Try.func40, Try.ntmps40
  go_wp2_with fail
  go_step3
  go_wp2_with fail
  go_step3
  go_wp2_with fail
  go_loopw [5, 6] (fun i _ wr => ∃ (k : Nat), k ≤ P.length ∧ i = .int .i64 ((obs (P.take k)).length : Int) ∧ Hid (Ob wr g 27 (sets s (P.take k)).cs) ∧ Hid (Only [g] w wr)) (fun i _ _ => n - (RowKit.intOf i).toNat)
  case atStart => exact ⟨0, by omega, rfl, by simpa [sets] using HO, hid (Only.refl _ _)⟩
  case round =>
    clear HO
    obtain ⟨k, hk, rfl, HO, HQ⟩ := hrel
    have HRw := hid (HR.out.only HQ.out (fun b' off' e hb' => by injection e with e; injection e with e1 e2; subst e1; simpa using hbg))
    obtain ⟨at0, hat⟩ : ∃ at0, (obs (P.take k)).length = at0 := ⟨_, rfl⟩
    rw [hat]
    have HA := hid hat
    by_cases hlt : k < P.length
    · have hdr := obs_drop hlt
      have hok := HP.out _ (List.getElem_mem hlt)
      have hsn : sets s (P.take (k + 1)) = (sets s (P.take k)).set (P[k]'hlt).1 (P[k]'hlt).2 := by rw [List.take_succ_eq_append_getElem hlt, sets_snoc]
      have hal : (obs (P.take (k + 1))).length = at0 + (oball (P[k]'hlt).1 (P[k]'hlt).2).length := by
        rw [List.take_succ_eq_append_getElem hlt, obs_app, List.length_append, hat]
        simp [obs]
      generalize (P[k]'hlt).1 = kd at *
      generalize (P[k]'hlt).2 = v at *
      generalize sets s (P.take k) = s1 at *
      rw [hat] at hdr
      obtain ⟨m, hm⟩ : ∃ m, (ob kd v).length = m := ⟨_, rfl⟩
      have hm4 : m ≤ 4 := by rw [← hm, ob_len]; split <;> omega
      have hm1 : 1 ≤ m := by rw [← hm, ob_len]; split <;> omega
      rw [oball_len, hm] at hal
      have hkb : 1 ≤ kd ∧ kd ≤ 54 := by unfold OkO at hok; omega
      have hle : at0 + 2 + m ≤ n := by
        have h9 := congrArg List.length hdr
        rw [List.length_drop, HN.out] at h9
        simp only [List.length_append, oball_len, hm, List.length_cons, List.length_nil] at h9
        omega
      have g0 : (obs P ++ [255]).getD at0 0 = kd := by
        have h9 := congrArg (fun l : List Int => l.getD 0 0) hdr
        simpa [oball, List.getD_eq_getElem?_getD] using h9
      have g1 : (obs P ++ [255]).getD (at0 + 1) 0 = (m : Int) := by
        have h9 := congrArg (fun l : List Int => l.getD 1 0) hdr
        simpa [oball, List.getD_eq_getElem?_getD, hm] using h9
      have hob : ((obs P ++ [255]).drop (at0 + 2)).take m = ob kd v := by
        have h9 : ((obs P ++ [255]).drop at0).drop 2 = ob kd v ++ (obs (P.drop (k + 1)) ++ [255]) := by rw [hdr]; rfl
        rw [List.drop_drop] at h9
        rw [h9, ← hm, List.take_left]
      have q0 := HRw.out.cellD at0 (by omega); rw [g0] at q0
      have q1 := HRw.out.cellD (at0 + 1) (by omega); rw [g1] at q1
      have HS := hid ((HRw.out.drop (at0 + 2) (by omega)).take m (by omega))
      have HOb := hid hob
      have HV : Hid (Rd .u8 wr (some ⟨b, off + (at0 + 2), none⟩) m (ob kd v)) := hid (by have h9 := HS.out; rwa [HOb.out] at h9)
      have HSn := hid hsn; have HAl := hid hal; have HM := hid hm
      have b0 : (kd == 255) = false := by simpa using (by omega : ¬ kd = 255)
      have b1 : (kd == 0) = false := by simpa using (by omega : ¬ kd = 0)
      have z1 : (at0 : Int) < (n : Int) := by omega
      have z2 : ¬ (n : Int) ≤ (at0 : Int) + 1 := by omega
      have z3 : ¬ (n : Int) < (at0 : Int) + 2 + (m : Int) := by omega
      have w1 : IntKind.i64.wrap ((at0 : Int) + 2) = (at0 : Int) + 2 := i64_in _ (by omega)
      have w2 : IntKind.i64.wrap ((at0 : Int) + 1) = (at0 : Int) + 1 := i64_in _ (by omega)
      have hki : IntKind.i64.wrap kd = kd := i64_in _ (by omega)
      have gsl : ∀ W : World, (Instr.slice 28 (.slice (some ⟨b, off, none⟩) n c) (some (.int .i64 ((at0 : Int) + 2))) (some (.int .i64 ((at0 : Int) + 2 + (m : Int)))) none).run Try.prog W = .ok (.slice (some ⟨b, off + (at0 + 2), none⟩) m (c - (at0 + 2))) W := fun W => by
        have y1 : (at0 : Int) + 2 ≤ (at0 : Int) + 2 + (m : Int) := by omega
        have y2 : (at0 : Int) + 2 + (m : Int) ≤ (c : Int) := by omega
        have y3 : ¬ (c : Int) = (at0 : Int) + 2 := by omega
        have y4 : ¬ c = at0 + 2 := by omega
        have y5 : ((at0 : Int) + 2).toNat = at0 + 2 := by omega
        have y6 : ((at0 : Int) + 2 + (m : Int)).toNat = at0 + 2 + m := by omega
        go_simp
        rw [if_pos (by omega), if_pos (by constructor <;> omega)]
      clear hdr hsn hal g0 g1 hob HS HOb hm hat
      go_wp2_with fail
      refine wp_region_noPanic ?_
      refine rgn.regionT (R := Only [g]) (by kernel_rfl) (Only.refl [g]) (fun _ _ _ => Only.trans) (fun _ _ _ _ _ h => h) (.y 0 (.y 1 (.y 2 (.y 3 (.y 4 (.y 5 (.y 6 (.y 7 (.y 8 (.y 9 (.y 10 (.e 11 .z)))))))))))) (by kernel_rfl) (fun W hWd => ?_)
      have HWd := hid hWd; clear hWd
      have QW : Hid (Only [] wr W) := hid (Only.eq_drew (Only.refl [] _) HWd.out)
      have QW0 : Hid (Only [g] wr W) := hid (QW.out.more (by simp))
      clear HWd
      refine rgn.Walk.ys (v := ?_) rfl rfl rfl ?_ ?_
      rotate_left 1
      · intro W' hW'
        go_simp
        try with_reducible rfl
      try simp only [Act.put, List.setIfInBounds_toArray, List.set_cons_zero, List.set_cons_succ]
      refine rgn.Walk.ys (v := ?_) rfl rfl rfl ?_ ?_
      rotate_left 1
      · intro W' hW'
        go_simp
        try with_reducible rfl
      try simp only [Act.put, List.setIfInBounds_toArray, List.set_cons_zero, List.set_cons_succ]
      refine rgn.Walk.ys (v := ?_) rfl rfl rfl ?_ ?_
      rotate_left 1
      · intro W' hW'
        go_simp
        try with_reducible rfl
      try simp only [Act.put, List.setIfInBounds_toArray, List.set_cons_zero, List.set_cons_succ]
      refine rgn.Walk.ys (v := ?_) rfl rfl rfl ?_ ?_
      rotate_left 1
      · intro W' hW'
        go_simp
        try with_reducible rfl
      try simp only [Act.put, List.setIfInBounds_toArray, List.set_cons_zero, List.set_cons_succ]
      refine rgn.Walk.ys (v := ?_) rfl rfl rfl ?_ ?_
      rotate_left 1
      · intro W' hW'
        have q0 := (QW0.out.trans hW').keepN q0 (by simpa using hbg)
        go_simp
        try with_reducible rfl
      try simp only [Act.put, List.setIfInBounds_toArray, List.set_cons_zero, List.set_cons_succ]
      refine rgn.Walk.ys (v := ?_) rfl rfl rfl ?_ ?_
      rotate_left 1
      · intro W' hW'
        go_simp
        try rw [hki]
        try with_reducible rfl
      try simp only [Act.put, List.setIfInBounds_toArray, List.set_cons_zero, List.set_cons_succ]
      refine rgn.Walk.ys (v := ?_) rfl rfl rfl ?_ ?_
      rotate_left 1
      · intro W' hW'
        go_simp
        try with_reducible rfl
      try simp only [Act.put, List.setIfInBounds_toArray, List.set_cons_zero, List.set_cons_succ]
      refine rgn.Walk.ys (v := ?_) rfl rfl rfl ?_ ?_
      rotate_left 1
      · intro W' hW'
        go_simp
        try with_reducible rfl
      try simp only [Act.put, List.setIfInBounds_toArray, List.set_cons_zero, List.set_cons_succ]
      refine rgn.Walk.ys (v := ?_) rfl rfl rfl ?_ ?_
      rotate_left 1
      · intro W' hW'
        go_simp
        try rw [w1]
        try with_reducible rfl
      try simp only [Act.put, List.setIfInBounds_toArray, List.set_cons_zero, List.set_cons_succ]
      refine rgn.Walk.ys (v := ?_) rfl rfl rfl ?_ ?_
      rotate_left 1
      · intro W' hW'
        go_simp
        try with_reducible rfl
      try simp only [Act.put, List.setIfInBounds_toArray, List.set_cons_zero, List.set_cons_succ]
      refine rgn.Walk.ys (v := ?_) rfl rfl rfl ?_ ?_
      rotate_left 1
      · intro W' hW'
        have gs := gsl W'
        go_simp
        try with_reducible rfl
      try simp only [Act.put, List.setIfInBounds_toArray, List.set_cons_zero, List.set_cons_succ]
      refine rgn.Walk.es ?_
      refine rgn.stepE rfl rfl (fun K hK => ?_)
      go_simp
      refine (readOption2 _ g s1 kd v m b (off + (at0 + 2)) (c - (at0 + 2)) HM.out (HO.out.only (QW.out) (by simp)) hok (HV.out.only_nil QW.out) (by omega) (by unfold maxLen; omega)).mono ?_
      rintro x w8 ⟨rfl, hO8, o8⟩
      refine hK _ _ o8 ?_
      clear hK K
      have HO8 := hid hO8; have Q8 := hid ((QW.out.more (by simp) : Only [g] wr _).trans o8)
      clear hO8 o8
      try simp only [Act.put, List.setIfInBounds_toArray, List.set_cons_zero, List.set_cons_succ]
      refine rgn.Walk.zs (NoPanic.normal ?_)
      go_wp2_with fail
      go_roundw
      case rel => exact ⟨k + 1, by omega, by rw [HAl.out]; first | rfl | (congr 1; push_cast; omega), by rw [HSn.out]; exact HO8, hid (HQ.out.trans Q8.out)⟩
      case measure => simp [RowKit.intOf]; omega
    · have hkl : k = P.length := by omega
      have hk0 : at0 = (obs P).length := by rw [← HA.out, hkl, List.take_length]
      have q0 := HRw.out.cellD at0 (by have h9 := HN.out; rw [List.length_append] at h9; simp at h9; omega)
      have e255 : (obs P ++ [255]).getD at0 0 = (255 : Int) := by rw [hk0]; simp [List.getD_eq_getElem?_getD]
      rw [e255] at q0
      clear e255
      have z1 : (at0 : Int) < (n : Int) := by have h9 := HN.out; rw [List.length_append] at h9; simp at h9; omega
      have HF : Hid (Ob wr g 27 (sets s P).cs) := hid (by have h9 := HO.out; rwa [hkl, List.take_length] at h9)
      clear hk0 hkl hlt hat
      go_wp2_with fail
      try rw [Exit.noGoto_ret]
      go_ret
      exact ⟨rfl, HF.out, HQ.out⟩
end Go.Proofs.Ytdpmjghdmpaehaa.ls
