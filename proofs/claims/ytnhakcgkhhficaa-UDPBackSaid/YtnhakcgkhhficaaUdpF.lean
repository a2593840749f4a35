/-
  Chapter 11 (udp): what Decode says of any bytes, by a walk of its text. Conditions: none but those typed.
-/
import Derived.Test.YtnhakcgkhhficaaUdpB
import Derived.Test.YtnhakcgkhhficaaRdr
import Derived.Test.YtnhakcgkhhficaaStc
namespace Go.Proofs.Ytnhakcgkhhficaa.udp
set_option linter.unusedVariables false
set_option linter.unusedSimpArgs false
open Go.ChangeShapes Go.WideShapes Go.ChangeAt Go.RowKit Go.IntWalk Go.Lib
/-- What Decode says: its error; the datagram and its data. -/
def lenU (l : List Int) : Int := ref.get2 l 4
def badU (fr to : Int) (l : List Int) : Bool := (ref.get2 l 6 != 0) && (oct.sumF (psd.psd fr to 17 (lenU l) ++ l.take (lenU l).toNat) != 0)
def dE (fr to : Int) (l : List Int) : Int := if l.length < 8 then 2 else if lenU l < 8 then 3 else if (l.length : Int) < lenU l then 2 else if badU fr to l = true then 4 else 0
def dG (fr to : Int) (l : List Int) (v : Value) : Value := if dE fr to l = 0 then .agg #[.int .u32 fr, .int .i64 (ref.get2 l 0), .int .u32 to, .int .i64 (ref.get2 l 2), v] else .agg #[.int .u32 0, .int .i64 0, .int .u32 0, .int .i64 0, v]
def dD (fr to : Int) (l : List Int) : List Int := if dE fr to l = 0 then (l.drop 8).take ((lenU l).toNat - 8) else []
def DEnd (w : World) (fr to : Int) (l : List Int) (x : Ending) (w' : World) : Prop := ∃ v, x = .returned (.tuple #[dG fr to l v, .int .i64 (dE fr to l)]) ∧ Own .u8 5 w' w.heap.size v (dD fr to l) ∧ Only [] w w'
/-- .. where it refuses. -/
theorem DEnd.no {w w' : World} {fr to er : Int} {l : List Int} (he : dE fr to l = er) (h0 : er ≠ 0) (o : Only [] w w') : DEnd w fr to l (.returned (.tuple #[.agg #[.int .u32 0, .int .i64 0, .int .u32 0, .int .i64 0, .slice none 0 0], .int .i64 er])) w' := by
  refine ⟨.slice none 0 0, ?_, ?_, o⟩
  · unfold dG; rw [he, if_neg h0]
  · unfold dD; rw [he, if_neg h0]; exact Own.nil _ _ _ _
theorem DEnd.yes {w w' : World} {fr to : Int} {l : List Int} {v : Value} {p q : Int} (he : dE fr to l = 0) (hp : p = ref.get2 l 0) (hq : q = ref.get2 l 2) (hv : Own .u8 5 w' w.heap.size v ((l.drop 8).take ((lenU l).toNat - 8))) (o : Only [] w w') : DEnd w fr to l (.returned (.tuple #[.agg #[.int .u32 fr, .int .i64 p, .int .u32 to, .int .i64 q, v], .int .i64 0])) w' := by
  refine ⟨v, ?_, ?_, o⟩
  · unfold dG; rw [he, if_pos rfl, hp, hq]
  · unfold dD; rw [he, if_pos rfl]; exact hv
theorem num_get2 (l : List Int) (i : Nat) (h : i + 2 ≤ l.length) : rdr.num ((l.drop i).take 2) = ref.get2 l i := by
  have h1 : (l.drop i).take 2 = [l.getD i 0, l.getD (i + 1) 0] := by
    apply List.ext_getElem?
    intro j
    rw [List.getElem?_take]
    rcases j with _ | _ | j
    · simp [List.getD_eq_getElem?_getD, show i < l.length by omega]
    · simp [List.getD_eq_getElem?_getD, show i + 1 < l.length by omega]
    · simp; try (intro h; omega)
  rw [h1]
  simp [rdr.num, ref.get2]
theorem get2_bd (l : List Int) (i : Nat) (h : i + 2 ≤ l.length) (hw : ∀ z ∈ l, 0 ≤ z ∧ z ≤ 255) : 0 ≤ ref.get2 l i ∧ ref.get2 l i ≤ 65535 := by
  have a := hw (l.getD i 0) (by rw [List.getD_eq_getElem?_getD, List.getElem?_eq_getElem (by omega)]; exact List.getElem_mem _)
  have b := hw (l.getD (i + 1) 0) (by rw [List.getD_eq_getElem?_getD, List.getElem?_eq_getElem (by omega)]; exact List.getElem_mem _)
  unfold ref.get2
  omega
set_option maxHeartbeats 1000000 in
theorem dec1 (w : World) (fr to : Int) (A : Option Addr) (n c : Nat) (l : List Int) (hl : Rd .u8 w A n l) (hc0 : A = none → c = 0) (hnc : n ≤ c) (hn : n ≤ 100000) :
    Calls Try.prog 24 #[.int .u32 fr, .int .u32 to, .slice A n c] w (DEnd w fr to l) := by
  have HLen := hid hl.len
  have HL := hid hl; clear hl
  have HC := hid hc0; clear hc0
  have HO : Hid (Only [] w w) := hid (Only.refl [] w)
  by_cases h8 : n < 8
  · have HE : Hid (dE fr to l = 2) := hid (by unfold dE; rw [if_pos (by rw [HLen.out]; exact h8)])
    have OR : Hid (Ob (w.alloc (.cells #[.int .u32 0, .int .i64 0, .int .u32 0, .int .i64 0, .slice none 0 0] 32)) w.heap.size 32 #[.int .u32 0, .int .i64 0, .int .u32 0, .int .i64 0, .slice none 0 0]) := hid (Ob.new _ _ _)
    have QB : Hid (Only [] w (w.alloc (.cells #[.int .u32 0, .int .i64 0, .int .u32 0, .int .i64 0, .slice none 0 0] 32))) := hid ((Only.refl [] w).alloc _)
    go_enter Try.func24, Try.ntmps24
    go_wp2_with (refine wp_storeOb rfl 32 _ _ rfl _ _ rfl rfl _ _ OR.out rfl (by kernel_rfl) (by simp [Value.oneCell']) (fun W9 hW9 => ?_); try simp only [Act.put, List.setIfInBounds_toArray, List.set_cons_zero, List.set_cons_succ]; have OR5 := hid (OR.out.eq_all hW9 rfl); have QB5 := hid (QB.out.eq_all hW9 (Or.inr (by simp))); clear hW9)
    have r0 := OR5.out.cell 0; have r1 := OR5.out.cell 1; have r2 := OR5.out.cell 2; have r3 := OR5.out.cell 3; have r4 := OR5.out.cell 4
    exact bodyPost_ret (v := .tuple #[.agg #[.int .u32 0, .int .i64 0, .int .u32 0, .int .i64 0, .slice none 0 0], .int .i64 2]) (by simp [results, Try.results24, go_sem, *]) rfl (DEnd.no HE.out (by decide) QB5.out)
  · obtain ⟨bb, off, rfl, hbb, _⟩ := HL.out.at_ (by omega)
    have HWF : Hid (∀ z ∈ l, 0 ≤ z ∧ z ≤ 255) := hid (fun z hz => u8Bd (HL.out.wf z hz))
    have b0 := get2_bd l 0 (by rw [HLen.out]; omega) HWF.out
    have b2 := get2_bd l 2 (by rw [HLen.out]; omega) HWF.out
    have b4 := get2_bd l 4 (by rw [HLen.out]; omega) HWF.out
    have b6 := get2_bd l 6 (by rw [HLen.out]; omega) HWF.out
    have N0 := hid (num_get2 l 0 (by rw [HLen.out]; omega))
    have N2 := hid (num_get2 l 2 (by rw [HLen.out]; omega))
    have N4 := hid (num_get2 l 4 (by rw [HLen.out]; omega))
    have N6 := hid (num_get2 l 6 (by rw [HLen.out]; omega))
    have HE : Hid (dE fr to l = if lenU l < 8 then 3 else if (l.length : Int) < lenU l then 2 else if badU fr to l = true then 4 else 0) := hid (by unfold dE; rw [if_neg (by rw [HLen.out]; exact h8)])
    have HLU : Hid (lenU l = ref.get2 l 4) := hid rfl
    have HBU : Hid (badU fr to l = ((ref.get2 l 6 != 0) && (oct.sumF (psd.psd fr to 17 (lenU l) ++ l.take (lenU l).toNat) != 0))) := hid rfl
    obtain ⟨p0, hp0⟩ : ∃ p, p = ref.get2 l 0 := ⟨_, rfl⟩
    obtain ⟨p2, hp2⟩ : ∃ p, p = ref.get2 l 2 := ⟨_, rfl⟩
    obtain ⟨m, hm⟩ : ∃ m : Nat, (m : Int) = ref.get2 l 4 := ⟨(ref.get2 l 4).toNat, by omega⟩
    obtain ⟨ck, hck⟩ : ∃ p, p = ref.get2 l 6 := ⟨_, rfl⟩
    rw [← hp0] at b0 N0
    rw [← hp2] at b2 N2
    rw [← hm] at b4 N4 HLU
    rw [← hck] at b6 N6 HBU
    have P0 := hid hp0; have P2 := hid hp2
    clear hp0 hp2 hm hck
    rw [HLU.out, Int.toNat_natCast] at HBU
    rw [HLU.out, HLen.out] at HE
    have OR : Hid (Ob (w.alloc (.cells #[.int .u32 0, .int .i64 0, .int .u32 0, .int .i64 0, .slice none 0 0] 32)) w.heap.size 32 #[.int .u32 0, .int .i64 0, .int .u32 0, .int .i64 0, .slice none 0 0]) := hid (Ob.new _ _ _)
    have QB : Hid (Only [] w (w.alloc (.cells #[.int .u32 0, .int .i64 0, .int .u32 0, .int .i64 0, .slice none 0 0] 32))) := hid ((Only.refl [] w).alloc _)
    have hB1 : w.heap.size < (w.alloc (.cells #[.int .u32 0, .int .i64 0, .int .u32 0, .int .i64 0, .slice none 0 0] 32)).heap.size := OR.out.lt
    generalize hW1 : w.alloc (.cells #[.int .u32 0, .int .i64 0, .int .u32 0, .int .i64 0, .slice none 0 0] 32) = W1 at *
    have HW1 := hid hW1; clear hW1
    go_enter Try.func24, Try.ntmps24
    go_wp2_with fail
    rw [HW1.out]
    refine (rdr.new1 W1 _ n c l (HL.out.only_nil QB.out) HC.out (by omega)).mono ?_
    rintro x w2 ⟨r, e, p, rfl, h2, o2⟩
    have RD : Hid (rdr.Rdr w2 W1.heap.size w2.heap.size r e p 0 (l.drop 0)) := hid (by simpa using h2)
    have OR := hid (OR.out.only o2 (by simp)); have QB := hid (QB.out.trans o2)
    obtain ⟨he1, hp1, he2, hp2⟩ := h2.lows
    clear h2 o2
    go_wp2_with fail
    refine (rdr.two_ok _ W1.heap.size w2.heap.size r e p (l.drop 0) RD.out (by rw [List.length_drop, HLen.out]; omega)).mono ?_
    rw [N0.out]
    rintro x w3 ⟨rfl, h2, o2⟩
    have RD : Hid (rdr.Rdr w3 W1.heap.size w2.heap.size r e p 0 (l.drop 2)) := hid (by simpa [List.drop_drop] using h2)
    have OR := hid (OR.out.only o2 (by simp; omega)); have QB := hid (QB.out.fresh o2 (by simp; omega))
    have ht3 : w2.heap.size ≤ w3.heap.size := Nat.le_trans (Nat.le_refl _) o2.size
    clear h2 o2
    go_wp2_with fail
    refine (rdr.two_ok _ W1.heap.size w2.heap.size r e p (l.drop 2) RD.out (by rw [List.length_drop, HLen.out]; omega)).mono ?_
    rw [N2.out]
    rintro x w4 ⟨rfl, h2, o2⟩
    have RD : Hid (rdr.Rdr w4 W1.heap.size w2.heap.size r e p 0 (l.drop 4)) := hid (by simpa [List.drop_drop] using h2)
    have OR := hid (OR.out.only o2 (by simp; omega)); have QB := hid (QB.out.fresh o2 (by simp; omega))
    have ht4 : w2.heap.size ≤ w4.heap.size := Nat.le_trans ht3 o2.size
    clear h2 o2
    have OD : Hid (Ob (w4.alloc (.cells #[.int .u32 fr, .int .i64 p0, .int .u32 to, .int .i64 p2, .slice none 0 0] 32)) w4.heap.size 32 #[.int .u32 fr, .int .i64 p0, .int .u32 to, .int .i64 p2, .slice none 0 0]) := hid (Ob.new _ _ _)
    have oa : Only [] w4 (w4.alloc (.cells #[.int .u32 fr, .int .i64 p0, .int .u32 to, .int .i64 p2, .slice none 0 0] 32)) := (Only.refl _ _).alloc _
    have RD := hid (RD.out.only_nil oa); have OR := hid (OR.out.only oa (by simp)); have QB := hid (QB.out.trans oa)
    have hgd : w2.heap.size ≤ w4.heap.size := ht4
    generalize hW5 : w4.alloc (.cells #[.int .u32 fr, .int .i64 p0, .int .u32 to, .int .i64 p2, .slice none 0 0] 32) = W5 at *
    have HW5 := hid hW5; clear hW5 oa
    go_wp2_with fail
    rw [HW5.out]
    refine (rdr.two_ok _ W1.heap.size w2.heap.size r e p (l.drop 4) RD.out (by rw [List.length_drop, HLen.out]; omega)).mono ?_
    rw [N4.out]
    rintro x w6 ⟨rfl, h2, o2⟩
    have RD : Hid (rdr.Rdr w6 W1.heap.size w2.heap.size r e p 0 (l.drop 6)) := hid (by simpa [List.drop_drop] using h2)
    have OR := hid (OR.out.only o2 (by simp; omega)); have QB := hid (QB.out.fresh o2 (by simp; omega))
    have ht6 : w2.heap.size ≤ w6.heap.size := Nat.le_trans (Nat.le_of_lt (Nat.lt_of_le_of_lt hgd OD.out.lt)) o2.size
    have OD := hid (OD.out.only o2 (by simp; omega)); have hdl6 := OD.out.lt
    clear h2 o2
    go_wp2_with fail
    refine (rdr.two_ok _ W1.heap.size w2.heap.size r e p (l.drop 6) RD.out (by rw [List.length_drop, HLen.out]; omega)).mono ?_
    rw [N6.out]
    rintro x w7 ⟨rfl, h2, o2⟩
    have RD : Hid (rdr.Rdr w7 W1.heap.size w2.heap.size r e p 0 (l.drop 8)) := hid (by simpa [List.drop_drop] using h2)
    have OR := hid (OR.out.only o2 (by simp; omega)); have QB := hid (QB.out.fresh o2 (by simp; omega))
    have ht7 : w2.heap.size ≤ w7.heap.size := Nat.le_trans ht6 o2.size
    have OD := hid (OD.out.only o2 (by simp; omega)); have hdl7 := OD.out.lt
    clear h2 o2
    by_cases h4 : (m : Int) < 8
    · have HE2 : Hid (dE fr to l = 3) := hid (by rw [HE.out, if_pos h4])
      go_wp2_with (refine wp_storeOb rfl 32 _ _ rfl _ _ rfl rfl _ _ OR.out rfl (by kernel_rfl) (by simp [Value.oneCell']) (fun W9 hW9 => ?_); try simp only [Act.put, List.setIfInBounds_toArray, List.set_cons_zero, List.set_cons_succ]; have OR5 := hid (OR.out.eq_all hW9 rfl); have QB5 := hid (QB.out.eq_all hW9 (Or.inr (by simp))); clear hW9)
      have r0 := OR5.out.cell 0; have r1 := OR5.out.cell 1; have r2 := OR5.out.cell 2; have r3 := OR5.out.cell 3; have r4 := OR5.out.cell 4
      exact bodyPost_ret (v := .tuple #[.agg #[.int .u32 0, .int .i64 0, .int .u32 0, .int .i64 0, .slice none 0 0], .int .i64 3]) (by simp [results, Try.results24, go_sem, *]) rfl (DEnd.no HE2.out (by decide) QB5.out)
    · by_cases h5 : (n : Int) < m
      · have HE2 : Hid (dE fr to l = 2) := hid (by rw [HE.out, if_neg h4, if_pos h5])
        go_wp2_with (refine wp_storeOb rfl 32 _ _ rfl _ _ rfl rfl _ _ OR.out rfl (by kernel_rfl) (by simp [Value.oneCell']) (fun W9 hW9 => ?_); try simp only [Act.put, List.setIfInBounds_toArray, List.set_cons_zero, List.set_cons_succ]; have OR5 := hid (OR.out.eq_all hW9 rfl); have QB5 := hid (QB.out.eq_all hW9 (Or.inr (by simp))); clear hW9)
        have r0 := OR5.out.cell 0; have r1 := OR5.out.cell 1; have r2 := OR5.out.cell 2; have r3 := OR5.out.cell 3; have r4 := OR5.out.cell 4
        exact bodyPost_ret (v := .tuple #[.agg #[.int .u32 0, .int .i64 0, .int .u32 0, .int .i64 0, .slice none 0 0], .int .i64 2]) (by simp [results, Try.results24, go_sem, *]) rfl (DEnd.no HE2.out (by decide) QB5.out)
      · have hmn : m ≤ n := by omega
        have hmc : (m : Int) ≤ c := by omega
        have HE1 : Hid (dE fr to l = if badU fr to l = true then 4 else 0) := hid (by rw [HE.out, if_neg h4, if_neg h5])
        by_cases hc : ck = 0
        · have HE2 : Hid (dE fr to l = 0) := hid (by rw [HE1.out, if_neg (by rw [HBU.out, hc]; simp)])
          subst hc
          have hm9 : ¬ (m : Int) < 8 := by omega
          go_wp2_with fail
          refine (rdr.raw_ok _ W1.heap.size w2.heap.size r e p (l.drop 8) _ (m - 8) RD.out (by omega) (by rw [List.length_drop, HLen.out]; omega) (by omega)).mono ?_
          rintro x w10 ⟨v, rfl, hv, _, o10⟩
          have OR := hid (OR.out.only o10 (by simp; omega)); have QB9 := hid (QB.out.fresh o10 (by simp; omega)); have OD := hid (OD.out.only o10 (by simp; omega))
          have hvb := fun i hi => (hv.lt i hi).1
          have hgd9 := OD.out.lt
          obtain ⟨A5, c5, ev5, _, _, _, _⟩ := hv.slice
          rw [List.length_take, List.length_drop, HLen.out, show min (m - 8) (n - 8) = m - 8 from by omega] at ev5
          subst ev5
          have HV := hid hv
          clear hv o10 QB
          have hgw : w4.heap.size < w7.heap.size := by omega
          have d4 : w10.cell? ⟨w4.heap.size, 4, none⟩ = some (.slice none 0 0) := OD.out.cell 4
          have f4 := OD.out.frozen 4
          have ODX : Hid (Ob (w10.setCell (⟨w4.heap.size, 4, none⟩ : Addr) (.slice A5 (m - 8) c5)) w4.heap.size 32 #[.int .u32 fr, .int .i64 p0, .int .u32 to, .int .i64 p2, .slice A5 (m - 8) c5]) := hid (by simpa using OD.out.set 4 (.slice A5 (m - 8) c5))
          have ORX := hid (OR.out.far (p := (⟨w4.heap.size, 4, none⟩ : Addr)) (by show w.heap.size ≠ w4.heap.size; omega) (.slice A5 (m - 8) c5))
          have QBX := hid (QB9.out.setCell (p := (⟨w4.heap.size, 4, none⟩ : Addr)) (.inr (by show w.heap.size ≤ w4.heap.size; omega)) (.slice A5 (m - 8) c5))
          have QBV : Hid (Only [w4.heap.size, w.heap.size] w10 (w10.setCell (⟨w4.heap.size, 4, none⟩ : Addr) (.slice A5 (m - 8) c5))) := hid ((Only.refl _ _).setCell (.inl (by simp)) _)
          go_wp2_with (first
            | (refine wp_loadOb rfl 32 (.tmp 9) rfl w4.heap.size rfl #[.int .u32 fr, .int .i64 p0, .int .u32 to, .int .i64 p2, .slice A5 (m - 8) c5] 32 ODX.out Try.underlying32 rfl (by kernel_rfl) ?_; try simp only [Act.put, List.setIfInBounds_toArray, List.set_cons_zero, List.set_cons_succ])
            | (refine wp_storeOb rfl 32 _ _ rfl _ _ rfl rfl _ _ ORX.out rfl (by kernel_rfl) (by simp [Value.oneCell']) (fun W9 hW9 => ?_); try simp only [Act.put, List.setIfInBounds_toArray, List.set_cons_zero, List.set_cons_succ]; have OR5 := hid (ORX.out.eq_all hW9 rfl); have QB5 := hid (QBX.out.eq_all hW9 (Or.inr (by simp))); have QV5 := hid (QBV.out.eq_all hW9 (Or.inl (by simp))); clear hW9))
          have HV5 := hid (HV.out.only QV5.out (fun i hi => by have := hvb i hi; simp; omega))
          have r0 := OR5.out.cell 0; have r1 := OR5.out.cell 1; have r2 := OR5.out.cell 2; have r3 := OR5.out.cell 3; have r4 := OR5.out.cell 4
          exact bodyPost_ret (v := .tuple #[.agg #[.int .u32 fr, .int .i64 p0, .int .u32 to, .int .i64 p2, .slice A5 (m - 8) c5], .int .i64 0]) (by simp [results, Try.results24, go_sem, *]) rfl (DEnd.yes HE2.out P0.out P2.out (by have h9 := HV5.out.mono_base (show w.heap.size ≤ w7.heap.size by omega); rw [show (lenU l).toNat = m from by rw [HLU.out, Int.toNat_natCast]]; exact h9) QB5.out)
        · have hc1 : (ck == 0) = false := by simpa using hc
          have hc2 : (ck != 0) = true := by simpa using hc
          go_wp2_with fail
          refine (sums1 _ fr to _ m c (l.take m) ((HL.out.only_nil QB.out).take m hmn) HC.out (by omega)).mono ?_
          rintro x w8 ⟨rfl, o8⟩
          have RD := hid (RD.out.only_nil o8); have OR := hid (OR.out.only o8 (by simp)); have QB := hid (QB.out.trans o8); have OD := hid (OD.out.only o8 (by simp)); have hdl8 := OD.out.lt; have ht8 : w2.heap.size ≤ w8.heap.size := Nat.le_trans ht7 o8.size; have hs8 := o8.size
          clear o8
          obtain ⟨sm, hsm⟩ : ∃ sm, oct.sumF (psd.psd fr to 17 m ++ l.take m) = sm := ⟨_, rfl⟩
          rw [hsm] at HBU
          rw [hsm]
          clear hsm
          by_cases hs : sm = 0
          · have HE2 : Hid (dE fr to l = 0) := hid (by rw [HE1.out, if_neg (by rw [HBU.out, hs]; simp)])
            subst hs
            have hm9 : ¬ (m : Int) < 8 := by omega
            go_wp2_with fail
            refine (rdr.raw_ok _ W1.heap.size w2.heap.size r e p (l.drop 8) _ (m - 8) RD.out (by omega) (by rw [List.length_drop, HLen.out]; omega) (by omega)).mono ?_
            rintro x w10 ⟨v, rfl, hv, _, o10⟩
            have OR := hid (OR.out.only o10 (by simp; omega)); have QB9 := hid (QB.out.fresh o10 (by simp; omega)); have OD := hid (OD.out.only o10 (by simp; omega))
            have hvb := fun i hi => (hv.lt i hi).1
            have hgd9 := OD.out.lt
            obtain ⟨A5, c5, ev5, _, _, _, _⟩ := hv.slice
            rw [List.length_take, List.length_drop, HLen.out, show min (m - 8) (n - 8) = m - 8 from by omega] at ev5
            subst ev5
            have HV := hid hv
            clear hv o10 QB
            have hgw : w4.heap.size < w8.heap.size := by omega
            have d4 : w10.cell? ⟨w4.heap.size, 4, none⟩ = some (.slice none 0 0) := OD.out.cell 4
            have f4 := OD.out.frozen 4
            have ODX : Hid (Ob (w10.setCell (⟨w4.heap.size, 4, none⟩ : Addr) (.slice A5 (m - 8) c5)) w4.heap.size 32 #[.int .u32 fr, .int .i64 p0, .int .u32 to, .int .i64 p2, .slice A5 (m - 8) c5]) := hid (by simpa using OD.out.set 4 (.slice A5 (m - 8) c5))
            have ORX := hid (OR.out.far (p := (⟨w4.heap.size, 4, none⟩ : Addr)) (by show w.heap.size ≠ w4.heap.size; omega) (.slice A5 (m - 8) c5))
            have QBX := hid (QB9.out.setCell (p := (⟨w4.heap.size, 4, none⟩ : Addr)) (.inr (by show w.heap.size ≤ w4.heap.size; omega)) (.slice A5 (m - 8) c5))
            have QBV : Hid (Only [w4.heap.size, w.heap.size] w10 (w10.setCell (⟨w4.heap.size, 4, none⟩ : Addr) (.slice A5 (m - 8) c5))) := hid ((Only.refl _ _).setCell (.inl (by simp)) _)
            go_wp2_with (first
              | (refine wp_loadOb rfl 32 (.tmp 9) rfl w4.heap.size rfl #[.int .u32 fr, .int .i64 p0, .int .u32 to, .int .i64 p2, .slice A5 (m - 8) c5] 32 ODX.out Try.underlying32 rfl (by kernel_rfl) ?_; try simp only [Act.put, List.setIfInBounds_toArray, List.set_cons_zero, List.set_cons_succ])
              | (refine wp_storeOb rfl 32 _ _ rfl _ _ rfl rfl _ _ ORX.out rfl (by kernel_rfl) (by simp [Value.oneCell']) (fun W9 hW9 => ?_); try simp only [Act.put, List.setIfInBounds_toArray, List.set_cons_zero, List.set_cons_succ]; have OR5 := hid (ORX.out.eq_all hW9 rfl); have QB5 := hid (QBX.out.eq_all hW9 (Or.inr (by simp))); have QV5 := hid (QBV.out.eq_all hW9 (Or.inl (by simp))); clear hW9))
            have HV5 := hid (HV.out.only QV5.out (fun i hi => by have := hvb i hi; simp; omega))
            have r0 := OR5.out.cell 0; have r1 := OR5.out.cell 1; have r2 := OR5.out.cell 2; have r3 := OR5.out.cell 3; have r4 := OR5.out.cell 4
            exact bodyPost_ret (v := .tuple #[.agg #[.int .u32 fr, .int .i64 p0, .int .u32 to, .int .i64 p2, .slice A5 (m - 8) c5], .int .i64 0]) (by simp [results, Try.results24, go_sem, *]) rfl (DEnd.yes HE2.out P0.out P2.out (by have h9 := HV5.out.mono_base (show w.heap.size ≤ w8.heap.size by omega); rw [show (lenU l).toNat = m from by rw [HLU.out, Int.toNat_natCast]]; exact h9) QB5.out)
          · have hs1 : (sm == 0) = false := by simpa using hs
            have hs2 : (sm != 0) = true := by simpa using hs
            have HE2 : Hid (dE fr to l = 4) := hid (by rw [HE1.out, if_pos (by rw [HBU.out]; simp [hc, hs])])
            go_wp2_with (refine wp_storeOb rfl 32 _ _ rfl _ _ rfl rfl _ _ OR.out rfl (by kernel_rfl) (by simp [Value.oneCell']) (fun W9 hW9 => ?_); try simp only [Act.put, List.setIfInBounds_toArray, List.set_cons_zero, List.set_cons_succ]; have OR5 := hid (OR.out.eq_all hW9 rfl); have QB5 := hid (QB.out.eq_all hW9 (Or.inr (by simp))); clear hW9)
            have r0 := OR5.out.cell 0; have r1 := OR5.out.cell 1; have r2 := OR5.out.cell 2; have r3 := OR5.out.cell 3; have r4 := OR5.out.cell 4
            exact bodyPost_ret (v := .tuple #[.agg #[.int .u32 0, .int .i64 0, .int .u32 0, .int .i64 0, .slice none 0 0], .int .i64 4]) (by simp [results, Try.results24, go_sem, *]) rfl (DEnd.no HE2.out (by decide) QB5.out)

end Go.Proofs.Ytnhakcgkhhficaa.udp
