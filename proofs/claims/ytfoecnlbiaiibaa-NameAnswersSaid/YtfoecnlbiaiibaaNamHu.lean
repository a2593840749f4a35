/-
  Chapter 21 (name): the law NameEncodes, by a walk of its text. Conditions: none but those typed.
-/
import Derived.Test.YtfoecnlbiaiibaaNamHt
import Derived.Test.YtfoecnlbiaiibaaNamW
import Derived.Test.YtfoecnlbiaiibaaHlp21
namespace Go.Proofs.Ytfoecnlbiaiibaa.nam
set_option linter.unusedVariables false
set_option linter.unusedSimpArgs false
open Go.ChangeShapes Go.WideShapes Go.ChangeAt Go.RowKit Go.IntWalk Go.Lib
/-- A message's records as an argument. -/
def MR (w : World) (A : Option Addr) (n c : Nat) : Prop := ∃ L : List Rc, L.length = n ∧ RowR w A L ∧ DatR w L ∧ n ≤ 140737488351232 ∧ (A = none → c = 0) ∧ n ≤ c
theorem MR_of {w : World} {bytes bb : Nat} {A : Option Addr} {n c : Nat} (hbb : bb = 1) (hb : 0 < bytes) (h : CK.holds w (.slice [.str, .int .i64, .int .i64, .int .i64, .slice [.int .u8] bb] bytes) (.slice A n c)) : MR w A n c := by
  obtain ⟨V0, V1, V2, V3, RA4, RN4, RC4, P4, ho, hl, hc⟩ := OplM_of hbb h
  obtain ⟨L, e, r, d, _⟩ := OplM.rows ho
  have h9 := h
  unfold CK.holds at h9
  obtain ⟨A', len', cap', e', _, _, _, hn, _⟩ := h9
  injection e' with e1 e2 e3
  subst e1 e2 e3
  refine ⟨L, e, r, d, ?_, hn, hl⟩
  have := Nat.le_mul_of_pos_right c hb
  omega
set_option maxHeartbeats 2000000 in
theorem encodes1 (w : World) (id fl : Int) (A1 : Option Addr) (n1 c1 : Nat) (A2 : Option Addr) (n2 c2 : Nat) (m1 : MR w A1 n1 c1) (m2 : MR w A2 n2 c2) :
    Calls Try.prog 5 #[.agg #[.int .i64 id, .int .i64 fl, .slice A1 n1 c1, .slice A2 n2 c2]] w fun x w' => x = .returned (.bool true) ∧ Only [] w w' := by
  obtain ⟨L1, e1, r1, d1, s1, z1, _⟩ := m1
  obtain ⟨L2, e2, r2, d2, s2, z2, _⟩ := m2
  obtain ⟨W0, hW0⟩ : ∃ W0, w.alloc (.cells #[.int .i64 id, .int .i64 fl, .slice A1 n1 c1, .slice A2 n2 c2] 39) = W0 := ⟨_, rfl⟩
  have C0 : Hid (Ob W0 w.heap.size 39 #[.int .i64 id, .int .i64 fl, .slice A1 n1 c1, .slice A2 n2 c2]) := hid (by rw [← hW0]; exact Ob.new _ _ _)
  have Q0 : Hid (Only [] w W0) := hid (by rw [← hW0]; exact (Only.refl [] w).alloc _)
  have HH := hid (heavyL W0 id fl A1 A2 n1 n2 c1 c2 L1 L2 e1 e2 (r1.only_nil Q0.out) (r2.only_nil Q0.out) (d1.only_nil Q0.out) (d2.only_nil Q0.out) s1 s2)
  have HE := hid (fun W (o : Only [] W0 W) h => encodeL W id fl A1 A2 n1 n2 c1 c2 L1 L2 e1 e2 (r1.only_nil (Q0.out.trans o)) (r2.only_nil (Q0.out.trans o)) (d1.only_nil (Q0.out.trans o)) (d2.only_nil (Q0.out.trans o)) z1 z2 h)
  have HD := hid (fun W (o : Only [] W0 W) h => encodeD W id fl A1 A2 n1 n2 c1 c2 L1 L2 e1 e2 (r1.only_nil (Q0.out.trans o)) (r2.only_nil (Q0.out.trans o)) (d1.only_nil (Q0.out.trans o)) (d2.only_nil (Q0.out.trans o)) h)
  have HLB : Hid ((encB id fl L1 L2).length ≤ 1000000000 ∨ ¬ lngOK L2 ∨ ¬ (L1.length ≤ 64 ∧ L2.length ≤ 64)) := hid (by
    by_cases h1 : lngOK L2
    · by_cases h2 : L1.length ≤ 64 ∧ L2.length ≤ 64
      · refine .inl ?_
        have a1 := heads_size L1 L1.length
        have a2 := answ_size d2 h1 L2.length
        rw [List.take_length] at a1 a2
        unfold encB heads answ
        rw [List.length_append, List.length_append]
        show 12 + _ + _ ≤ _
        omega
      · exact .inr (.inr h2)
    · exact .inr (.inl h1))
  have k0 := C0.out.cell 0
  have k1 := C0.out.cell 1
  have k2 := C0.out.cell 2
  have k3 := C0.out.cell 3
  clear e1 e2 r1 r2 d1 d2 s1 s2 z1 z2
  go_enter Try.func5, Try.ntmps5
  go_wp2_with fail
  refine HH.out.mono ?_
  rintro x w1 ⟨q, rfl, o1, hq⟩
  have Q1 := hid o1
  have C1 := hid (C0.out.only o1 (by simp))
  have HQ := hid hq
  clear o1 hq k0 k1 k2 k3 HH
  have k0 := C1.out.cell 0
  have k1 := C1.out.cell 1
  have k2 := C1.out.cell 2
  have k3 := C1.out.cell 3
  cases q with
  | true =>
    go_wp2_with fail
    go_ret
    exact ⟨rfl, Q0.out.trans Q1.out⟩
  | false =>
    have H12 := hid (HQ.out rfl)
    go_wp2_with fail
    refine (HE.out w1 Q1.out H12.out).mono ?_
    rintro x w2 ⟨v2, e2, rfl, he2, hv2, o2⟩
    have C2 := hid (C1.out.only o2 (by simp))
    have Q2 := hid (Q1.out.trans o2)
    have V2 := hid hv2; have E2 := hid he2
    clear hv2 he2 o2 k0 k1 k2 k3
    have k0 := C2.out.cell 0
    have k1 := C2.out.cell 1
    have k2 := C2.out.cell 2
    have k3 := C2.out.cell 3
    go_wp2_with fail
    refine (HD.out w2 Q2.out H12.out).mono ?_
    rintro x w3 ⟨v3, e3, rfl, he3, hv3, o3⟩
    have hee := E2.out.one he3
    have Q3 := hid (Q2.out.trans o3)
    have V2b := hid (V2.out.only_nil o3)
    have V3 := hid hv3
    subst hee
    clear hv3 he3 o3 V2 k0 k1 k2 k3 C2 HE HD
    have HLn : Hid ((if e2 = 0 then encB id fl L1 L2 else []).length ≤ 1000000000) := hid (by
      by_cases h0 : e2 = 0
      · rw [if_pos h0]
        rcases HLB.out with h | h | h
        · exact h
        · exfalso
          subst h0
          rcases E2.out with ⟨h9, _⟩ | ⟨h9, _⟩ | ⟨h9, _⟩ | ⟨h9, _⟩ | ⟨_, h9⟩
          · cases h9
          · cases h9
          · cases h9
          · cases h9
          · exact h h9.2.2.2.2
        · exfalso
          subst h0
          rcases E2.out with ⟨h9, _⟩ | ⟨h9, _⟩ | ⟨h9, _⟩ | ⟨h9, _⟩ | ⟨_, h9⟩
          · cases h9
          · cases h9
          · cases h9
          · cases h9
          · exact h ⟨h9.1.2.2.1, h9.1.2.2.2.1⟩
      · rw [if_neg h0]; simp)
    obtain ⟨l, hl⟩ : ∃ l, (if e2 = 0 then encB id fl L1 L2 else []) = l := ⟨_, rfl⟩
    rw [hl] at V2b V3 HLn
    clear hl
    obtain ⟨A3, c3, rfl, hR3, _⟩ := own_form V2b.out
    obtain ⟨A4, c4, rfl, hR4, _⟩ := own_form V3.out
    have HR3 := hid hR3; have HR4 := hid hR4
    obtain ⟨n, hn⟩ : ∃ n, l.length = n := ⟨_, rfl⟩
    rw [hn] at HR3 HR4 HLn
    rw [hn]
    clear hR3 hR4 hn
    go_wp2_with fail
    refine (hlp.same w3 A3 A4 n n c3 c4 l l HR3.out HR4.out (by have := HLn.out; omega) (by have := HLn.out; omega)).mono ?_
    rintro x w4 ⟨rfl, q, rfl⟩
    have hd : decide (l = l) = true := decide_eq_true rfl
    rw [hd]
    have Q4 := hid (Q3.out.drewN q)
    clear hd
    go_wp2_with fail
    refine (known21 _).mono ?_
    rintro x w9 ⟨rfl, o9⟩
    have Q9 := hid (Q4.out.trans o9); clear o9
    go_wp2_with fail
    go_ret
    exact ⟨rfl, Q0.out.trans Q9.out⟩
end Go.Proofs.Ytfoecnlbiaiibaa.nam
