/-
  Chapter 21 (name): Decode of what Encode wrote, whatever stands behind, by a walk of its text. Conditions: none but those typed.
-/
import Derived.Test.YtfoecnlbiaiibaaNamBd
namespace Go.Proofs.Ytfoecnlbiaiibaa.nam
set_option linter.unusedVariables false
set_option linter.unusedSimpArgs false
open Go.ChangeShapes Go.WideShapes Go.ChangeAt Go.RowKit Go.IntWalk Go.Lib
/-- What is told of a record: all of it; of a question. -/
def Rc.key (r : Rc) : ByteArray × Int × Int × Int × List Int := (r.s, r.ty, r.cl, r.ttl, r.d)
def Rc.keyQ (r : Rc) : ByteArray × Int × Int × Int × List Int := (r.s, r.ty, r.cl, 0, [])
theorem rcs_one (L : List Rc) : ∀ u ∈ rcs L, u.oneCell' = true := by
  induction L with
  | nil => intro u hu; cases hu
  | cons r L ih =>
    intro u hu
    rcases List.mem_append.1 (show u ∈ r.cs ++ rcs L from hu) with h | h
    · simp only [Rc.cs, List.mem_cons, List.not_mem_nil, or_false] at h
      rcases h with rfl | rfl | rfl | rfl | rfl <;> rfl
    · exact ih u h
theorem rdS_rec (w : World) (r : Rc) : RdS (w.alloc (.cells #[.string r.s, .int .i64 r.ty, .int .i64 r.cl, .int .i64 r.ttl, .slice r.A r.n r.c] 46)) (some ⟨w.heap.size, 0, none⟩) 1 5 r.cs :=
  ⟨rfl, fun u hu => rcs_one [r] u (by simpa [rcs] using hu), fun _ => ⟨w.heap.size, 0, rfl, by simp, fun j u hj => by
    rw [Nat.zero_add, (Ob.new w 46 _).cell]
    rw [← hj]
    unfold Rc.cs
    simp⟩⟩
/-- All Data that were read. -/
def DBs (w : World) (L : List Rc) : Prop := ∀ r ∈ L, DB w (.slice r.A r.n r.c) r.d
theorem DBs.keep {w w' : World} {L : List Rc} (h : DBs w L) (k : K8 w w') : DBs w' L := fun r hr => (h r hr).keep k
theorem DBs.add {w w' : World} {L : List Rc} {r : Rc} (h : DBs w L) (k : K8 w w') (h1 : DB w' (.slice r.A r.n r.c) r.d) : DBs w' (L ++ [r]) := fun x hx => by
  rcases List.mem_append.1 hx with h2 | h2
  · exact (h x h2).keep k
  · rw [show x = r from by simpa using h2]; exact h1
/-- Rows in unlike blocks. -/
def Apart (v o : Value) : Prop := ∀ i, o.ownBlock = some i → v.ownBlock ≠ some i
theorem Apart.symm {v o : Value} (h : Apart v o) : Apart o v := fun i h1 h2 => h i h2 h1
theorem Apart.next {v v' o : Value} {w : World} (h : Apart v o) (hb : v'.ownBlock = v.ownBlock ∨ v'.ownBlock = some w.heap.size) (hl : ∀ i, o.ownBlock = some i → i < w.heap.size) : Apart v' o := fun i h1 h2 => by
  rcases hb with h3 | h3
  · exact h i h1 (h3 ▸ h2)
  · rw [h3] at h2
    have := hl i h1
    have : w.heap.size = i := by simpa using h2
    omega
theorem own_grownS {w w' : World} {row : Option Nat} {base : Nat} {e : TypeId} {sz n : Nat} {v : Value} {xs : List Value} (h : w.ownsRow base e sz v n xs) (hg : w.grownBy w' row) (hn : ∀ i, v.ownBlock = some i → row ≠ some i) : w'.ownsRow base e sz v n xs := by
  refine ⟨h.1, ?_⟩
  rcases h.2 with h2 | ⟨b, cap, cur, hv1, hb1, hh, r⟩
  · exact .inl h2
  · refine .inr ⟨b, cap, cur, hv1, hb1, ?_, r⟩
    rw [hg.block b (lt_of_some hh) (fun e2 => hn b (by rw [hv1]; rfl) e2.symm)]
    exact hh
theorem CS.keep {w w' : World} {e q a : Nat} {A : Option Addr} {n c : Nat} {p : Int} {row : Option Nat} (h : CS w e q a A n c p) (hg : w.grownBy w' row) (he : row ≠ some e) (hq : row ≠ some q) (ha : row ≠ some a) : CS w' e q a A n c p := ⟨h.oe.grown hg he, h.oq.grown hg hq, h.oa.grown hg ha, h.ea, h.eq, h.aq⟩
theorem flat_split {f : Rc → List Int} {L : List Rc} {k : Nat} (hk : k < L.length) : L.flatMap f = (L.take k).flatMap f ++ f (L.getD k rc0) ++ (L.drop (k + 1)).flatMap f := by
  have h1 := rc_take L k hk
  have h2 : L = L.take (k + 1) ++ L.drop (k + 1) := (List.take_append_drop _ _).symm
  conv => lhs; rw [h2]
  rw [List.flatMap_append, h1, List.flatMap_append]
  simp
/-- What is known of answers that were given: their Data are as long as is said. -/
def PureR (L : List Rc) : Prop := ∀ r ∈ L, r.d.length = r.n ∧ ∀ x ∈ r.d, 0 ≤ x ∧ x ≤ 255
def AllOK (id fl : Int) (Q A : List Rc) : Prop := argOK id fl Q A ∧ nmOK Q A ∧ cnOK A ∧ frmOK A ∧ lngOK A
def DecE (id fl : Int) (L1 L2 : List Rc) (w : World) (x : Ending) (w' : World) : Prop := ∃ (A1 A2 : Option Addr) (c1 c2 : Nat) (LQ LA : List Rc), x = .returned (.tuple #[.agg #[.int .i64 id, .int .i64 fl, .slice A1 LQ.length c1, .slice A2 LA.length c2], .int .i64 0]) ∧ RowR w' A1 LQ ∧ RowR w' A2 LA ∧ LQ.map Rc.key = L1.map Rc.keyQ ∧ LA.map Rc.key = L2.map Rc.key ∧ DBs w' LQ ∧ DBs w' LA ∧ Only [] w w' ∧ (∀ b off, A1 = some ⟨b, off, none⟩ → w.heap.size ≤ b) ∧ (∀ b off, A2 = some ⟨b, off, none⟩ → w.heap.size ≤ b)
set_option maxRecDepth 100000 in
set_option maxHeartbeats 16000000 in
theorem decodeL (w : World) (b off n c : Nat) (B more : List Int) (hB : Rd .u8 w (some ⟨b, off, none⟩) n B) (hnc : n ≤ c) (hcm : c ≤ maxLen) (hn : n ≤ 1000000000) (id fl : Int) (L1 L2 : List Rc) (n1 n2 : Nat) (e1 : L1.length = n1) (e2 : L2.length = n2) (ok : AllOK id fl L1 L2) (pu : PureR L2) (hBe : B = encB id fl L1 L2 ++ more) :
    Calls Try.prog 19 #[.slice (some ⟨b, off, none⟩) n c] w (DecE id fl L1 L2 w) := by
  have hlen := hB.len
  have E1 := hid e1; have E2 := hid e2
  have HARG := hid ok.1; have HNM := hid ok.2.1; have HCN := hid ok.2.2.1; have HFRM := hid ok.2.2.2.1; have HLNG := hid ok.2.2.2.2; have HPUR := hid pu
  have hn1 : n1 ≤ 64 := by have := ok.1.2.2.1; omega
  have hn2 : n2 ≤ 64 := by have := ok.1.2.2.2.1; omega
  have hid0 := ok.1.1; have hfl0 := ok.1.2.1
  obtain ⟨T12, hT⟩ : ∃ T12, twos [id, fl, (n1 : Int), (n2 : Int), 0, 0] = T12 := ⟨_, rfl⟩
  have HT12 : Hid (T12.length = 12) := hid (by rw [← hT]; rfl)
  have N1 : Hid (rdr.num (T12.take 2) = id) := hid (by rw [← hT]; exact num2 hid0)
  have N2 : Hid (rdr.num ((T12.drop 2).take 2) = fl) := hid (by rw [← hT]; exact num2 hfl0)
  have N3 : Hid (rdr.num (((T12.drop 2).drop 2).take 2) = (n1 : Int)) := hid (by rw [← hT]; exact num2 (by omega))
  have N4 : Hid (rdr.num ((((T12.drop 2).drop 2).drop 2).take 2) = (n2 : Int)) := hid (by rw [← hT]; exact num2 (by omega))
  have HBB : Hid (B = T12 ++ heads L1 ++ answ L2 ++ more) := hid (by rw [hBe]; unfold encB; rw [e1, e2, hT])
  have h12 : 12 ≤ n := by rw [← hlen, HBB.out]; simp only [List.length_append]; rw [HT12.out]; omega
  have HBlt : Hid (b < w.heap.size) := hid (by
    obtain ⟨b', off', e', hb', _⟩ := hB.at_ (show 0 < n by omega)
    injection e' with e'; injection e' with e1 _; subst e1; exact hb')
  have HTake : Hid (B.take 12 = T12) := hid (by
    rw [HBB.out, List.append_assoc, List.append_assoc, List.take_append_of_le_length (by rw [HT12.out]; omega), List.take_of_length_le (by rw [HT12.out]; omega)])
  clear hT hBe hlen ok pu e1 e2
  obtain ⟨W1, hW1⟩ : ∃ W1, w.alloc (.cells #[.int .i64 0, .int .i64 0, .slice none 0 0, .slice none 0 0] 39) = W1 := ⟨_, rfl⟩
  have OR : Hid (Ob W1 w.heap.size 39 #[.int .i64 0, .int .i64 0, .slice none 0 0, .slice none 0 0]) := hid (by rw [← hW1]; exact Ob.new _ _ _)
  have QB : Hid (Only [] w W1) := hid (by rw [← hW1]; exact (Only.refl [] w).alloc _)
  have HB0 := hid hB
  have HB := hid (hB.only_nil QB.out)
  have HCM := hid hcm
  unfold maxLen at hcm
  have g1 : ¬ (n : Int) < 12 := by omega
  have g2 : (12 : Int) ≤ (c : Int) := by omega
  have HR12 : Hid (Rd .u8 W1 (some ⟨b, off, none⟩) 12 T12) := hid (by have h9 := HB.out.take 12 h12; rw [HTake.out] at h9; exact h9)
  clear hB hcm
  go_enter Try.func19, Try.ntmps19
  go_wp2_with fail
  clear hW1
  have hlt0 := OR.out.lt
  refine (rdr.new1 W1 (some ⟨b, off, none⟩) 12 c T12 HR12.out (by intro e; cases e) (by omega)).mono ?_
  rintro x w3 ⟨rr, e0, pp, rfl, h3, o3⟩
  obtain ⟨hlo1, hlo2, hlo3, hlo4⟩ := h3.lows
  have RD := hid h3; have OR := hid (OR.out.only o3 (by simp)); have QB := hid (QB.out.trans o3)
  clear h3 o3
  go_wp2_with fail
  refine (rdr.two_ok w3 _ _ rr e0 pp T12 RD.out (by rw [HT12.out]; omega)).mono ?_
  rintro x w4 ⟨rfl, h4, o4⟩
  rw [N1.out]
  have hz4 := o4.size
  have RD := hid h4; have OR := hid (OR.out.only o4 (by simp; omega)); have QB0 := QB.out.size; have QB := hid (QB.out.fresh o4 (by simp; omega))
  clear h4 o4
  go_wp2_with fail
  refine (rdr.two_ok w4 _ _ rr e0 pp (T12.drop 2) RD.out (by rw [List.length_drop, HT12.out]; omega)).mono ?_
  rintro x w5 ⟨rfl, h5, o5⟩
  rw [N2.out]
  have hz5 := Nat.le_trans hz4 o5.size
  have RD := hid h5; have OR := hid (OR.out.only o5 (by simp; omega)); have QB0 := QB.out.size; have QB := hid (QB.out.fresh o5 (by simp; omega))
  clear h5 o5
  have o6 : Only [] w5 (w5.alloc (.cells #[.int .i64 id, .int .i64 fl, .slice none 0 0, .slice none 0 0] 39)) := (Only.refl [] w5).alloc _
  have OM : Hid (Ob (w5.alloc (.cells #[.int .i64 id, .int .i64 fl, .slice none 0 0, .slice none 0 0] 39)) w5.heap.size 39 #[.int .i64 id, .int .i64 fl, .slice none 0 0, .slice none 0 0]) := hid (Ob.new _ _ _)
  have hlt5 := OR.out.lt
  have RD := hid (RD.out.only_nil o6); have OR := hid (OR.out.only o6 (by simp)); have QB := hid (QB.out.trans o6)
  have hz6 := Nat.le_trans hz5 o6.size
  clear o6
  go_wp2_with fail
  refine (rdr.two_ok _ _ _ rr e0 pp _ RD.out (by rw [List.length_drop, List.length_drop, HT12.out]; omega)).mono ?_
  rintro x w7 ⟨rfl, h7, o7⟩
  rw [N3.out]
  have hz7 := Nat.le_trans hz6 o7.size
  have OM := hid (OM.out.only o7 (by simp; omega))
  have RD := hid h7; have OR := hid (OR.out.only o7 (by simp; omega)); have QB0 := QB.out.size; have QB := hid (QB.out.fresh o7 (by simp; omega))
  clear h7 o7
  go_wp2_with fail
  refine (rdr.two_ok w7 _ _ rr e0 pp _ RD.out (by rw [List.length_drop, List.length_drop, List.length_drop, HT12.out]; omega)).mono ?_
  rintro x w8 ⟨rfl, h8, o8⟩
  rw [N4.out]
  have OM := hid (OM.out.only o8 (by simp; omega))
  have OR := hid (OR.out.only o8 (by simp; omega)); have QB0 := QB.out.size; have QB := hid (QB.out.fresh o8 (by simp; omega))
  have hz8 := o8.size
  clear h8 o8 RD
  have g3 : ¬ (64 : Int) < (n1 : Int) := by omega
  have g4 : ¬ (64 : Int) < (n2 : Int) := by omega
  go_wp2_with fail
  refine (recs1 w8 (some ⟨b, off, none⟩) n c).mono ?_
  rintro x w9 ⟨rfl, o9, cs9⟩
  have HOR := hid (OR.out.only o9 (by simp))
  have OM9 := hid (OM.out.only o9 (by simp)); have QB9 := hid (QB.out.trans o9); have CS9 := hid cs9
  have hg5a : w.heap.size < w5.heap.size := by omega
  have hg5b : w5.heap.size < w8.heap.size := OM.out.lt
  have HgB0 : w5.heap.size < w9.heap.size := OM9.out.lt
  have he9 := cs9.oe.lt; have hq9 := cs9.oq.lt; have ha9 := cs9.oa.lt
  have hww := QB.out.size
  obtain ⟨g5, hg5⟩ : ∃ g5, w5.heap.size = g5 := ⟨_, rfl⟩
  obtain ⟨e, he⟩ : ∃ e, w8.heap.size + 2 = e := ⟨_, rfl⟩
  obtain ⟨q, hq⟩ : ∃ q, w8.heap.size = q := ⟨_, rfl⟩
  obtain ⟨a, ha⟩ : ∃ a, w8.heap.size + 1 = a := ⟨_, rfl⟩
  obtain ⟨B0, hB0⟩ : ∃ B0, w9.heap.size = B0 := ⟨_, rfl⟩
  rw [hg5] at OM9 HgB0 hg5a hg5b
  rw [he, ha] at CS9
  rw [hq] at CS9
  rw [he] at he9; rw [hq] at hq9; rw [ha] at ha9
  rw [hB0] at HgB0 he9 hq9 ha9
  have HgB := hid HgB0
  have HeB : Hid (e < B0) := hid he9
  have HqB : Hid (q < B0) := hid hq9
  have HaB : Hid (a < B0) := hid ha9
  have HgE : Hid (g5 < e) := hid (by omega)
  have HgQ : Hid (g5 < q) := hid (by omega)
  have HgA : Hid (g5 < a) := hid (by omega)
  have HwG : Hid (w.heap.size ≤ g5) := hid (by omega)
  have HwG2 : Hid (w.heap.size < g5) := hid (by omega)
  have HwE2 : Hid (w.heap.size < e) := hid (by omega)
  have HwA2 : Hid (w.heap.size < a) := hid (by omega)
  have HwB : Hid (w.heap.size < B0) := hid (by omega)
  have HwE : Hid (w.heap.size ≤ e) := hid (by omega)
  have HwA : Hid (w.heap.size ≤ a) := hid (by omega)
  have HBw : Hid (w.heap.size ≤ B0) := hid (by omega)
  have HBs9 : Hid (B0 ≤ w9.heap.size) := hid (by omega)
  have ev2 : w8.heap.size = q := hq
  rw [hg5]
  rw [he, ha, hq]
  obtain ⟨nn, hnn⟩ : ∃ nn, n1 + n2 = nn := ⟨_, rfl⟩
  have HNN := hid hnn
  have hnz : (n1 : Int) + (n2 : Int) = (nn : Int) := by omega
  clear o9 cs9 he9 hq9 ha9 OM OR QB hww hg5 he hq ha ev2 hB0 HgB0 hg5a hg5b hlo1 hlo2 hlo3 hlo4 hz4 hz5 hz6 hz7 hz8 hlt0 hlt5 QB0
  go_wp2_with fail
  clear g1 g2 g3 g4
  go_loopw [40, 9, 10] (fun i v9 v10 wr => ∃ (k : Nat) (vq va : Value) (LQ LA : List Rc) (p0 : Nat), i = .int .i64 k ∧ v9 = .int .i64 0 ∧ k ≤ nn ∧ Hid (Ob wr g5 39 #[.int .i64 id, .int .i64 fl, vq, va]) ∧ Hid (Ob wr w.heap.size 39 #[.int .i64 0, .int .i64 0, .slice none 0 0, .slice none 0 0]) ∧ Hid (CS wr e q a (some ⟨b, off, none⟩) n c p0) ∧ Hid (wr.ownsRow B0 46 5 vq LQ.length (rcs LQ) ∧ wr.ownsRow B0 46 5 va LA.length (rcs LA)) ∧ Hid (Apart vq va) ∧ Hid (LQ.map Rc.key = (L1.take k).map Rc.keyQ) ∧ Hid (LA.map Rc.key = (L2.take (k - n1)).map Rc.key) ∧ Hid (DBs wr LQ ∧ DBs wr LA) ∧ Hid (Only [] w wr) ∧ Hid (B0 ≤ wr.heap.size) ∧ Hid (T12.length + (heads (L1.take k)).length + (answ (L2.take (k - n1))).length = p0)) (fun i _ _ _ => nn - (RowKit.intOf i).toNat)
  case atStart => exact ⟨0, .slice none 0 0, .slice none 0 0, [], [], 12, rfl, rfl, by omega, OM9, HOR, CS9, hid ⟨World.ownsRow_nil _ _ _ _, World.ownsRow_nil _ _ _ _⟩, hid (fun i h1 => by exact absurd h1 (by simp [Value.ownBlock])), hid rfl, hid (by simp), hid (And.intro (fun r hr => absurd hr (by simp)) (fun r hr => absurd hr (by simp))), QB9, HBs9, hid (by rw [HT12.out]; simp [heads, answ])⟩
  case round =>
    obtain ⟨k, vq, va, LQ, LA, p0, rfl, rfl, hk, OM0, OR0, CS0, HRR, HNe, HKQ, HKA, HDD, QB, HBs0, HPos⟩ := hrel
    have HR1 := hid HRR.out.1; have HR2 := hid HRR.out.2; have HD1 := hid HDD.out.1; have HD2 := hid HDD.out.2
    have HLt1 : Hid (∀ i, vq.ownBlock = some i → i < wr.heap.size) := hid (fun i hi => (own_lt HR1.out i hi).2)
    have HLt2 : Hid (∀ i, va.ownBlock = some i → i < wr.heap.size) := hid (fun i hi => (own_lt HR2.out i hi).2)
    have HLnLQ : Hid (LQ.length ≤ 64) := hid (by have h1 := congrArg List.length HKQ.out; rw [List.length_map, List.length_map, List.length_take, E1.out] at h1; omega)
    have HLnLA : Hid (LA.length ≤ 64) := hid (by have h1 := congrArg List.length HKA.out; rw [List.length_map, List.length_map, List.length_take, E2.out] at h1; omega)
    clear HRR HDD
    by_cases hlt : k < nn
    · by_cases hq : k < n1
      · have hq1 : ¬ (n1 : Int) ≤ (k : Int) := by omega
        have hq2 : decide ((n1 : Int) ≤ (k : Int)) = false := decide_eq_false hq1
        have HK : Hid (k < L1.length) := hid (by rw [E1.out]; exact hq)
        have HNX := hid (flat_next (f := hdB) HK.out)
        have HTk := hid (rc_take L1 k HK.out)
        have HT2 : Hid (L2.take (k - n1) = L2.take (k + 1 - n1)) := hid (by rw [show k - n1 = 0 from by omega, show k + 1 - n1 = 0 from by omega])
        have HBe : Hid (B = (T12 ++ (L1.take k).flatMap hdB) ++ hdB (L1.getD k rc0) ++ ((L1.drop (k + 1)).flatMap hdB ++ answ L2 ++ more)) := hid (by
          rw [HBB.out]; unfold heads
          rw [flat_split HK.out]; simp)
        have HP0 : Hid ((T12 ++ (L1.take k).flatMap hdB).length = p0) := hid (by
          rw [← HPos.out, List.length_append, show k - n1 = 0 from by omega]; simp [heads, answ])
        have HNm := hid (HNM.out.1 _ (rc_mem L1 k HK.out))
        have HTy := hid (HARG.out.2.2.2.2.1 _ (rc_mem L1 k HK.out))
        generalize hrr : L1.getD k rc0 = r at *
        have HRR := hid hrr
        clear hrr
        obtain ⟨s, ty, cl, ttl0, rA, rn, rc, rd⟩ := r
        obtain ⟨ttl, httl⟩ : ∃ ttl : Int, 0 = ttl := ⟨_, rfl⟩
        obtain ⟨d, hd⟩ : ∃ d : List Int, [] = d := ⟨_, rfl⟩
        have HTt := hid httl; have HDe := hid hd
        clear httl hd
        obtain ⟨p1, hp1⟩ : ∃ p1, (p0 + (hdB ⟨s, ty, cl, ttl0, rA, rn, rc, rd⟩).length) = p1 := ⟨_, rfl⟩
        have HP1 := hid hp1
        have HREC := hid (show RecP (some ⟨b, off, none⟩) n c p0 p1 false s ty cl ttl d w from fun W o => by
          refine (recQ W b off n c B (HB0.out.only_nil o) hnc HCM.out hn p0 _ _ ⟨s, ty, cl, ttl0, rA, rn, rc, rd⟩ HP0.out HNm.out HTy.out.1 HTy.out.2.1 HBe.out).mono ?_
          rintro x w' ⟨rfl, o'⟩
          rw [HP1.out, HTt.out]
          refine ⟨.slice none 0 0, rfl, ?_, o'⟩
          rw [← HDe.out]
          exact DB.nil w')
        obtain ⟨WA, hWA⟩ : ∃ WA, wr.alloc (.cells #[.string ⟨#[]⟩, .int .i64 0, .int .i64 0, .int .i64 0, .slice none 0 0] 46) = WA := ⟨_, rfl⟩
        have oA : Only [] wr WA := by rw [← hWA]; exact (Only.refl [] wr).alloc _
        have OT : Hid (Ob WA wr.heap.size 46 #[.string ⟨#[]⟩, .int .i64 0, .int .i64 0, .int .i64 0, .slice none 0 0]) := hid (by rw [← hWA]; exact Ob.new _ _ _)
        have CSA := hid (CS0.out.only oA (by simp) (by simp) (by simp))
        have QA := hid (QB.out.trans oA)
        go_wp2_with fail
        clear hWA
        refine (nextL WA e q a (some ⟨b, off, none⟩) n c p0 p1 false s ty cl ttl d CSA.out (fun W o => HREC.out W (QA.out.trans o))).mono ?_
        rintro x w4 ⟨Av, cv, rfl, hv4, cs4, o4⟩
        have hT := OT.out.lt
        have hAlt : wr.heap.size ≤ WA.heap.size := oA.size
        have hTn : wr.heap.size ≠ e ∧ wr.heap.size ≠ a := by have := HeB.out; have := HaB.out; have := HBs0.out; omega
        have OT := hid (OT.out.only o4 (by simp; exact hTn))
        have OM := hid ((OM0.out.only oA (by simp)).only o4 (by have := HgE.out; have := HgA.out; simp; omega))
        have OR := hid ((OR0.out.only oA (by simp)).only o4 (by have := HwE2.out; have := HwA2.out; simp; omega))
        have KA : K8 wr w4 := (K8.of_nil oA).trans (K8.of_only o4 (fun k hk => by
          rcases List.mem_cons.1 hk with h | h
          · subst h; exact .inr ⟨_, _, by decide, CSA.out.oe⟩
          · rw [show k = a from by simpa using h]; exact .inr ⟨_, _, by decide, CSA.out.oa⟩))
        have HDLQ := hid (HD1.out.keep KA); have HDLA := hid (HD2.out.keep KA)
        have HRvq := hid (own_only (own_only_nil HR1.out oA) o4 (fun i hi hm => by have h1 := (own_lt HR1.out i hi).1; have h2 := HeB.out; have h3 := HaB.out; simp at hm; omega))
        have HRva := hid (own_only (own_only_nil HR2.out oA) o4 (fun i hi hm => by have h1 := (own_lt HR2.out i hi).1; have h2 := HeB.out; have h3 := HaB.out; simp at hm; omega))
        have QB : Hid (Only [] w w4) := hid (QA.out.fresh o4 (fun i hi => by have h1 := HwE.out; have h2 := HwA.out; simp at hi; omega))
        have HV := hid hv4
        have CS4 := hid cs4
        have hs4 : wr.heap.size ≤ w4.heap.size := Nat.le_trans oA.size o4.size
        have HBs4 : Hid (B0 ≤ w4.heap.size) := hid (by have := HBs0.out; omega)
        have hng : g5 ∉ [wr.heap.size] := by have := HgB.out; have := HBs0.out; simp; omega
        have hnE : e ∉ [wr.heap.size] := by have := HeB.out; have := HBs0.out; simp; omega
        have hnQ : q ∉ [wr.heap.size] := by have := HqB.out; have := HBs0.out; simp; omega
        have hnA : a ∉ [wr.heap.size] := by have := HaB.out; have := HBs0.out; simp; omega
        have hnV1 : ∀ i, vq.ownBlock = some i → i ∉ [wr.heap.size] := fun i hi hm => by have h1 := HLt1.out i hi; simp at hm; omega
        have hnV2 : ∀ i, va.ownBlock = some i → i ∉ [wr.heap.size] := fun i hi hm => by have h1 := HLt2.out i hi; simp at hm; omega
        have hnW : ∀ i ∈ [wr.heap.size], i ∈ ([] : List Nat) ∨ w.heap.size ≤ i := fun i hi => .inr (by have := HBw.out; have := HBs0.out; simp at hi; omega)
        have hnR : w.heap.size ∉ [wr.heap.size] := by have := HwB.out; have := HBs0.out; simp; omega
        clear oA o4 CSA QA KA hv4 cs4 HREC OM0 OR0 CS0 HR1 HR2 HD1 HD2 hTn hT hAlt
        have hq3 : (k : Int) < (n1 : Int) := by omega
        go_wp2_with (first
          | (refine wp_storeOb rfl 46 _ _ rfl _ _ rfl rfl _ _ OT.out rfl (by kernel_rfl) (by simp [Value.oneCell']) ?_; intro w5 hW5; try simp only [Act.put, List.setIfInBounds_toArray, List.set_cons_zero, List.set_cons_succ]; have o5 := Only.eq_all (Only.refl [wr.heap.size] _) hW5 (Or.inl (by simp)); have K5 := K8.of_one o5 OT.out (by decide); have OT := hid (OT.out.eq_all hW5 rfl); have t0 := OT.out.cell 0; have t1 := OT.out.cell 1; have t2 := OT.out.cell 2; have t3 := OT.out.cell 3; have t4 := OT.out.cell 4; have OM := hid (OM.out.only o5 hng); have OR := hid (OR.out.only o5 hnR); have m2 := OM.out.cell 2; have m3 := OM.out.cell 3; have CS5 := hid (CS4.out.only o5 hnE hnQ hnA); have HDLQ := hid (HDLQ.out.keep K5); have HDLA := hid (HDLA.out.keep K5); have HRvq := hid (own_only HRvq.out o5 hnV1); have HRva := hid (own_only HRva.out o5 hnV2); have HV := hid (HV.out.keep K5); have QB := hid (QB.out.fresh o5 hnW); have HBs : Hid (B0 ≤ w5.heap.size) := hid (Nat.le_trans HBs4.out o5.size); clear hW5 K5 o5)
          | (at_builtin; refine wpList_appS0 _ rfl (.tmp 55) (.tmp 57) _ rfl elemRec B0 vq LQ.length (rcs LQ) rfl (own_only_nil HRvq.out ((Only.refl [] w5).alloc _)) (some ⟨w5.heap.size, 0, none⟩) 1 1 (Rc.cs (⟨s, ty, cl, ttl, Av, d.length, cv, d⟩ : Rc)) rfl (rdS_rec w5 (⟨s, ty, cl, ttl, Av, d.length, cv, d⟩ : Rc)) (by intro e; cases e) (by have := HLnLQ.out; omega) (by have := HLnLQ.out; unfold maxLen; omega) (by have := HBs.out; simp; omega) ?_))
        intro v6 w6 hv6 hg6 hb6
        have q1 : Only [] w5 (w5.alloc (.cells #[.string s, .int .i64 ty, .int .i64 cl, .int .i64 ttl, .slice Av d.length cv] 46)) := (Only.refl [] w5).alloc _
        have HRv := hid (own_only_nil HRvq.out q1)
        have hl9b : (LQ ++ [(⟨s, ty, cl, ttl, Av, d.length, cv, d⟩ : Rc)]).length = LQ.length + 1 := by simp
        have hv6b : w6.ownsRow B0 46 5 v6 (LQ.length + 1) (rcs (LQ ++ [(⟨s, ty, cl, ttl, Av, d.length, cv, d⟩ : Rc)])) := by rw [rcs_app]; simpa [rcs] using hv6
        have K6 : K8 w5 w6 := (K8.of_nil q1).trans (K8.of_grown HRv.out (by decide) hg6)
        have HD6 := hid (HDLQ.out.add K6 (r := (⟨s, ty, cl, ttl, Av, d.length, cv, d⟩ : Rc)) (HV.out.keep K6))
        have HDo6 := hid (HDLA.out.keep K6)
        have hnm : ∀ i, i < B0 → vq.ownBlock ≠ some i := fun i hi e => by have := (own_lt HRv.out i e).1; omega
        have OM6 := hid (show Ob w6 g5 39 #[.int .i64 id, .int .i64 fl, vq, va] from (hg6.block g5 ((OM.out.only q1 (by simp)).lt) (fun e => hnm g5 HgB.out e.symm)).trans (OM.out.only q1 (by simp)))
        have OR6 := hid (show Ob w6 w.heap.size 39 #[.int .i64 0, .int .i64 0, .slice none 0 0, .slice none 0 0] from (hg6.block _ ((OR.out.only q1 (by simp)).lt) (fun e => hnm _ HwB.out e.symm)).trans (OR.out.only q1 (by simp)))
        have CS6 : Hid (CS w6 e q a (some ⟨b, off, none⟩) n c p1) := hid (CS.keep (CS5.out.only q1 (by simp) (by simp) (by simp)) hg6 (hnm e HeB.out) (hnm q HqB.out) (hnm a HaB.out))
        have HRo6 := hid (own_grownS (own_only_nil HRva.out q1) hg6 (fun i hi => HNe.out i hi))
        have HNe6 : Hid (Apart v6 va) := hid (Apart.next (w := w5.alloc (.cells #[.string s, .int .i64 ty, .int .i64 cl, .int .i64 ttl, .slice Av d.length cv] 46)) HNe.out (by simpa using hb6) (fun i hi => (own_lt (own_only_nil HRva.out q1) i hi).2))
        have QB6 : Hid (Only [] w w6) := hid ((QB.out.trans q1).of_grown hg6 (fun i hi => .inr (by have := (own_lt HRv.out i hi).1; have := HBw.out; omega)))
        have hs6 : w5.heap.size ≤ w6.heap.size := Nat.le_trans q1.size hg6.size
        obtain ⟨A9, c9, ev6, hl9, hm9, hc9, _, _, _⟩ := RdS.of_own hv6b (rcs_one _)
        subst ev6
        have HR6 := hid hv6b
        have m9 := OM6.out.cell 2; have f9 := OM6.out.frozen 2
        clear hv6 hv6b hg6 hb6 hnm OM HRvq HRva HDLQ HDLA HNe CS5 q1 m2 m3 QB hl9 hm9 hc9 hl9b HV
        go_wp2_with fail
        have q7 : Only [g5] w6 (w6.setCell ⟨g5, 2, none⟩ (.slice A9 (LQ.length + 1) c9)) := (Only.refl _ w6).setCell (Or.inl (by simp)) _
        have K7 : K8 w6 (w6.setCell ⟨g5, 2, none⟩ (.slice A9 (LQ.length + 1) c9)) := K8.of_one q7 OM6.out (by decide)
        have OM7 : Hid (Ob (w6.setCell ⟨g5, 2, none⟩ (.slice A9 (LQ.length + 1) c9)) g5 39 #[.int .i64 id, .int .i64 fl, .slice A9 (LQ.length + 1) c9, va]) := hid (OM6.out.set 2 _)
        have OR7 := hid (OR6.out.only q7 (by have := HwG2.out; simp; omega))
        have CS7 := hid (CS6.out.only q7 (by have := HgE.out; simp; omega) (by have := HgQ.out; simp; omega) (by have := HgA.out; simp; omega))
        have HR7 := hid (own_only HR6.out q7 (fun i hi hm => by have h1 := (own_lt HR6.out i hi).1; have h2 := HgB.out; simp at hm; omega))
        have HRo7 := hid (own_only HRo6.out q7 (fun i hi hm => by have h1 := (own_lt HRo6.out i hi).1; have h2 := HgB.out; simp at hm; omega))
        have QB7 : Hid (Only [] w (w6.setCell ⟨g5, 2, none⟩ (.slice A9 (LQ.length + 1) c9))) := hid (QB6.out.setCell (p := ⟨g5, 2, none⟩) (Or.inr HwG.out) _)
        have HBs7 : Hid (B0 ≤ (w6.setCell ⟨g5, 2, none⟩ (.slice A9 (LQ.length + 1) c9)).heap.size) := hid (by have := HBs.out; have := q7.size; omega)
        clear t0 t1 t2 t3 t4 m9 f9
        go_wp2_with fail
        go_roundw
        case rel => exact ⟨k + 1, _, va, LQ ++ [(⟨s, ty, cl, ttl, Av, d.length, cv, d⟩ : Rc)], LA, p1, by first | rfl | go_num, rfl, by omega, OM7, OR7, CS7, hid ⟨by simpa using HR7.out, HRo7.out⟩, HNe6, hid (by rw [HTk.out, List.map_append, List.map_append, HKQ.out]; simp [Rc.key, Rc.keyQ, HTt.out, HDe.out]), hid (by rw [← HT2.out]; exact HKA.out), hid ⟨HD6.out.keep K7, HDo6.out.keep K7⟩, QB7, HBs7, hid (by rw [← HT2.out, ← HP1.out, ← HPos.out]; unfold heads; rw [HNX.out, List.length_append]; omega)⟩
        case measure => simp [RowKit.intOf]; omega
      · have hq1 : (n1 : Int) ≤ (k : Int) := by omega
        have hq2 : decide ((n1 : Int) ≤ (k : Int)) = true := decide_eq_true hq1
        have hj : k - n1 < n2 := by omega
        have HK : Hid (k - n1 < L2.length) := hid (by rw [E2.out]; exact hj)
        have HNX := hid (flat_next (f := ansB) HK.out)
        have HTk := hid (rc_take L2 (k - n1) HK.out)
        have HT1 : Hid (L1.take k = L1 ∧ L1.take (k + 1) = L1) := hid ⟨List.take_of_length_le (by rw [E1.out]; omega), List.take_of_length_le (by rw [E1.out]; omega)⟩
        have HBe : Hid (B = (T12 ++ heads L1 ++ (L2.take (k - n1)).flatMap ansB) ++ ansB (L2.getD (k - n1) rc0) ++ ((L2.drop (k - n1 + 1)).flatMap ansB ++ more)) := hid (by
          rw [HBB.out]
          show T12 ++ heads L1 ++ L2.flatMap ansB ++ more = _
          rw [flat_split HK.out]; simp)
        have HP0 : Hid ((T12 ++ heads L1 ++ (L2.take (k - n1)).flatMap ansB).length = p0) := hid (by
          rw [← HPos.out, HT1.out.1]; simp [heads, answ]; omega)
        have HNm := hid (HNM.out.2 _ (rc_mem L2 (k - n1) HK.out))
        have HTy := hid (HARG.out.2.2.2.2.2 _ (rc_mem L2 (k - n1) HK.out))
        have HCn := hid (HCN.out _ (rc_mem L2 (k - n1) HK.out))
        have HFr := hid (HFRM.out _ (rc_mem L2 (k - n1) HK.out))
        have HLg := hid (HLNG.out _ (rc_mem L2 (k - n1) HK.out))
        have HPu := hid (HPUR.out _ (rc_mem L2 (k - n1) HK.out))
        generalize hrr : L2.getD (k - n1) rc0 = r at *
        have HRR := hid hrr
        clear hrr
        obtain ⟨s, ty, cl, ttl, rA, rn, rc, d⟩ := r
        obtain ⟨p1, hp1⟩ : ∃ p1, (p0 + (ansB ⟨s, ty, cl, ttl, rA, rn, rc, d⟩).length) = p1 := ⟨_, rfl⟩
        have HP1 := hid hp1
        have HREC := hid (show RecP (some ⟨b, off, none⟩) n c p0 p1 true s ty cl ttl d w from fun W o => by
          refine (recA W b off n c B (HB0.out.only_nil o) hnc HCM.out hn p0 _ _ ⟨s, ty, cl, ttl, rA, rn, rc, d⟩ HP0.out HNm.out HTy.out.1 HTy.out.2.1 (HTy.out.2.2 rfl) HCn.out (fun h => by rw [HPu.out.1]; exact HFr.out h) (by rw [HPu.out.1]; exact HLg.out) HPu.out.2 HBe.out).mono ?_
          rintro x w' ⟨v, rfl, hv, o'⟩
          rw [HP1.out]
          exact ⟨v, rfl, hv, o'⟩)
        obtain ⟨WA, hWA⟩ : ∃ WA, wr.alloc (.cells #[.string ⟨#[]⟩, .int .i64 0, .int .i64 0, .int .i64 0, .slice none 0 0] 46) = WA := ⟨_, rfl⟩
        have oA : Only [] wr WA := by rw [← hWA]; exact (Only.refl [] wr).alloc _
        have OT : Hid (Ob WA wr.heap.size 46 #[.string ⟨#[]⟩, .int .i64 0, .int .i64 0, .int .i64 0, .slice none 0 0]) := hid (by rw [← hWA]; exact Ob.new _ _ _)
        have CSA := hid (CS0.out.only oA (by simp) (by simp) (by simp))
        have QA := hid (QB.out.trans oA)
        go_wp2_with fail
        clear hWA
        refine (nextL WA e q a (some ⟨b, off, none⟩) n c p0 p1 true s ty cl ttl d CSA.out (fun W o => HREC.out W (QA.out.trans o))).mono ?_
        rintro x w4 ⟨Av, cv, rfl, hv4, cs4, o4⟩
        have hT := OT.out.lt
        have hAlt : wr.heap.size ≤ WA.heap.size := oA.size
        have hTn : wr.heap.size ≠ e ∧ wr.heap.size ≠ a := by have := HeB.out; have := HaB.out; have := HBs0.out; omega
        have OT := hid (OT.out.only o4 (by simp; exact hTn))
        have OM := hid ((OM0.out.only oA (by simp)).only o4 (by have := HgE.out; have := HgA.out; simp; omega))
        have OR := hid ((OR0.out.only oA (by simp)).only o4 (by have := HwE2.out; have := HwA2.out; simp; omega))
        have KA : K8 wr w4 := (K8.of_nil oA).trans (K8.of_only o4 (fun k hk => by
          rcases List.mem_cons.1 hk with h | h
          · subst h; exact .inr ⟨_, _, by decide, CSA.out.oe⟩
          · rw [show k = a from by simpa using h]; exact .inr ⟨_, _, by decide, CSA.out.oa⟩))
        have HDLQ := hid (HD1.out.keep KA); have HDLA := hid (HD2.out.keep KA)
        have HRvq := hid (own_only (own_only_nil HR1.out oA) o4 (fun i hi hm => by have h1 := (own_lt HR1.out i hi).1; have h2 := HeB.out; have h3 := HaB.out; simp at hm; omega))
        have HRva := hid (own_only (own_only_nil HR2.out oA) o4 (fun i hi hm => by have h1 := (own_lt HR2.out i hi).1; have h2 := HeB.out; have h3 := HaB.out; simp at hm; omega))
        have QB : Hid (Only [] w w4) := hid (QA.out.fresh o4 (fun i hi => by have h1 := HwE.out; have h2 := HwA.out; simp at hi; omega))
        have HV := hid hv4
        have CS4 := hid cs4
        have hs4 : wr.heap.size ≤ w4.heap.size := Nat.le_trans oA.size o4.size
        have HBs4 : Hid (B0 ≤ w4.heap.size) := hid (by have := HBs0.out; omega)
        have hng : g5 ∉ [wr.heap.size] := by have := HgB.out; have := HBs0.out; simp; omega
        have hnE : e ∉ [wr.heap.size] := by have := HeB.out; have := HBs0.out; simp; omega
        have hnQ : q ∉ [wr.heap.size] := by have := HqB.out; have := HBs0.out; simp; omega
        have hnA : a ∉ [wr.heap.size] := by have := HaB.out; have := HBs0.out; simp; omega
        have hnV1 : ∀ i, vq.ownBlock = some i → i ∉ [wr.heap.size] := fun i hi hm => by have h1 := HLt1.out i hi; simp at hm; omega
        have hnV2 : ∀ i, va.ownBlock = some i → i ∉ [wr.heap.size] := fun i hi hm => by have h1 := HLt2.out i hi; simp at hm; omega
        have hnW : ∀ i ∈ [wr.heap.size], i ∈ ([] : List Nat) ∨ w.heap.size ≤ i := fun i hi => .inr (by have := HBw.out; have := HBs0.out; simp at hi; omega)
        have hnR : w.heap.size ∉ [wr.heap.size] := by have := HwB.out; have := HBs0.out; simp; omega
        clear oA o4 CSA QA KA hv4 cs4 HREC OM0 OR0 CS0 HR1 HR2 HD1 HD2 hTn hT hAlt
        have hq3 : ¬ (k : Int) < (n1 : Int) := by omega
        go_wp2_with (first
          | (refine wp_storeOb rfl 46 _ _ rfl _ _ rfl rfl _ _ OT.out rfl (by kernel_rfl) (by simp [Value.oneCell']) ?_; intro w5 hW5; try simp only [Act.put, List.setIfInBounds_toArray, List.set_cons_zero, List.set_cons_succ]; have o5 := Only.eq_all (Only.refl [wr.heap.size] _) hW5 (Or.inl (by simp)); have K5 := K8.of_one o5 OT.out (by decide); have OT := hid (OT.out.eq_all hW5 rfl); have t0 := OT.out.cell 0; have t1 := OT.out.cell 1; have t2 := OT.out.cell 2; have t3 := OT.out.cell 3; have t4 := OT.out.cell 4; have OM := hid (OM.out.only o5 hng); have OR := hid (OR.out.only o5 hnR); have m2 := OM.out.cell 2; have m3 := OM.out.cell 3; have CS5 := hid (CS4.out.only o5 hnE hnQ hnA); have HDLQ := hid (HDLQ.out.keep K5); have HDLA := hid (HDLA.out.keep K5); have HRvq := hid (own_only HRvq.out o5 hnV1); have HRva := hid (own_only HRva.out o5 hnV2); have HV := hid (HV.out.keep K5); have QB := hid (QB.out.fresh o5 hnW); have HBs : Hid (B0 ≤ w5.heap.size) := hid (Nat.le_trans HBs4.out o5.size); clear hW5 K5 o5)
          | (at_builtin; refine wpList_appS0 _ rfl (.tmp 61) (.tmp 63) _ rfl elemRec B0 va LA.length (rcs LA) rfl (own_only_nil HRva.out ((Only.refl [] w5).alloc _)) (some ⟨w5.heap.size, 0, none⟩) 1 1 (Rc.cs (⟨s, ty, cl, ttl, Av, d.length, cv, d⟩ : Rc)) rfl (rdS_rec w5 (⟨s, ty, cl, ttl, Av, d.length, cv, d⟩ : Rc)) (by intro e; cases e) (by have := HLnLA.out; omega) (by have := HLnLA.out; unfold maxLen; omega) (by have := HBs.out; simp; omega) ?_))
        intro v6 w6 hv6 hg6 hb6
        have q1 : Only [] w5 (w5.alloc (.cells #[.string s, .int .i64 ty, .int .i64 cl, .int .i64 ttl, .slice Av d.length cv] 46)) := (Only.refl [] w5).alloc _
        have HRv := hid (own_only_nil HRva.out q1)
        have hl9b : (LA ++ [(⟨s, ty, cl, ttl, Av, d.length, cv, d⟩ : Rc)]).length = LA.length + 1 := by simp
        have hv6b : w6.ownsRow B0 46 5 v6 (LA.length + 1) (rcs (LA ++ [(⟨s, ty, cl, ttl, Av, d.length, cv, d⟩ : Rc)])) := by rw [rcs_app]; simpa [rcs] using hv6
        have K6 : K8 w5 w6 := (K8.of_nil q1).trans (K8.of_grown HRv.out (by decide) hg6)
        have HD6 := hid (HDLA.out.add K6 (r := (⟨s, ty, cl, ttl, Av, d.length, cv, d⟩ : Rc)) (HV.out.keep K6))
        have HDo6 := hid (HDLQ.out.keep K6)
        have hnm : ∀ i, i < B0 → va.ownBlock ≠ some i := fun i hi e => by have := (own_lt HRv.out i e).1; omega
        have OM6 := hid (show Ob w6 g5 39 #[.int .i64 id, .int .i64 fl, vq, va] from (hg6.block g5 ((OM.out.only q1 (by simp)).lt) (fun e => hnm g5 HgB.out e.symm)).trans (OM.out.only q1 (by simp)))
        have OR6 := hid (show Ob w6 w.heap.size 39 #[.int .i64 0, .int .i64 0, .slice none 0 0, .slice none 0 0] from (hg6.block _ ((OR.out.only q1 (by simp)).lt) (fun e => hnm _ HwB.out e.symm)).trans (OR.out.only q1 (by simp)))
        have CS6 : Hid (CS w6 e q a (some ⟨b, off, none⟩) n c p1) := hid (CS.keep (CS5.out.only q1 (by simp) (by simp) (by simp)) hg6 (hnm e HeB.out) (hnm q HqB.out) (hnm a HaB.out))
        have HRo6 := hid (own_grownS (own_only_nil HRvq.out q1) hg6 (fun i hi => HNe.out.symm i hi))
        have HNe6 : Hid (Apart v6 vq) := hid (Apart.next (w := w5.alloc (.cells #[.string s, .int .i64 ty, .int .i64 cl, .int .i64 ttl, .slice Av d.length cv] 46)) HNe.out.symm (by simpa using hb6) (fun i hi => (own_lt (own_only_nil HRvq.out q1) i hi).2))
        have QB6 : Hid (Only [] w w6) := hid ((QB.out.trans q1).of_grown hg6 (fun i hi => .inr (by have := (own_lt HRv.out i hi).1; have := HBw.out; omega)))
        have hs6 : w5.heap.size ≤ w6.heap.size := Nat.le_trans q1.size hg6.size
        obtain ⟨A9, c9, ev6, hl9, hm9, hc9, _, _, _⟩ := RdS.of_own hv6b (rcs_one _)
        subst ev6
        have HR6 := hid hv6b
        have m9 := OM6.out.cell 3; have f9 := OM6.out.frozen 3
        clear hv6 hv6b hg6 hb6 hnm OM HRva HRvq HDLA HDLQ HNe CS5 q1 m2 m3 QB hl9 hm9 hc9 hl9b HV
        go_wp2_with fail
        have q7 : Only [g5] w6 (w6.setCell ⟨g5, 3, none⟩ (.slice A9 (LA.length + 1) c9)) := (Only.refl _ w6).setCell (Or.inl (by simp)) _
        have K7 : K8 w6 (w6.setCell ⟨g5, 3, none⟩ (.slice A9 (LA.length + 1) c9)) := K8.of_one q7 OM6.out (by decide)
        have OM7 : Hid (Ob (w6.setCell ⟨g5, 3, none⟩ (.slice A9 (LA.length + 1) c9)) g5 39 #[.int .i64 id, .int .i64 fl, vq, .slice A9 (LA.length + 1) c9]) := hid (OM6.out.set 3 _)
        have OR7 := hid (OR6.out.only q7 (by have := HwG2.out; simp; omega))
        have CS7 := hid (CS6.out.only q7 (by have := HgE.out; simp; omega) (by have := HgQ.out; simp; omega) (by have := HgA.out; simp; omega))
        have HR7 := hid (own_only HR6.out q7 (fun i hi hm => by have h1 := (own_lt HR6.out i hi).1; have h2 := HgB.out; simp at hm; omega))
        have HRo7 := hid (own_only HRo6.out q7 (fun i hi hm => by have h1 := (own_lt HRo6.out i hi).1; have h2 := HgB.out; simp at hm; omega))
        have QB7 : Hid (Only [] w (w6.setCell ⟨g5, 3, none⟩ (.slice A9 (LA.length + 1) c9))) := hid (QB6.out.setCell (p := ⟨g5, 3, none⟩) (Or.inr HwG.out) _)
        have HBs7 : Hid (B0 ≤ (w6.setCell ⟨g5, 3, none⟩ (.slice A9 (LA.length + 1) c9)).heap.size) := hid (by have := HBs.out; have := q7.size; omega)
        clear t0 t1 t2 t3 t4 m9 f9
        go_wp2_with fail
        go_roundw
        case rel => exact ⟨k + 1, vq, _, LQ, LA ++ [(⟨s, ty, cl, ttl, Av, d.length, cv, d⟩ : Rc)], p1, by first | rfl | go_num, rfl, by omega, OM7, OR7, CS7, hid ⟨HRo7.out, by simpa using HR7.out⟩, hid HNe6.out.symm, hid (by rw [HT1.out.2, ← HT1.out.1]; exact HKQ.out), hid (by rw [show k + 1 - n1 = k - n1 + 1 from by omega, HTk.out, List.map_append, List.map_append, HKA.out]; rfl), hid ⟨HDo6.out.keep K7, HD6.out.keep K7⟩, QB7, HBs7, hid (by rw [HT1.out.2, ← HP1.out, ← HPos.out, HT1.out.1, show k + 1 - n1 = k - n1 + 1 from by omega]; unfold answ; rw [HNX.out, List.length_append]; omega)⟩
        case measure => simp [RowKit.intOf]; omega
    · have HK2 : Hid (L1.take k = L1 ∧ L2.take (k - n1) = L2) := hid ⟨List.take_of_length_le (by rw [E1.out]; omega), List.take_of_length_le (by rw [E2.out]; omega)⟩
      obtain ⟨Aq, cq, evq, hq1, hq2, hq3, hrq, hqb, _⟩ := RdS.of_own HR1.out (rcs_one _)
      obtain ⟨Aa, ca, eva, ha1, ha2, ha3, hra, hab, _⟩ := RdS.of_own HR2.out (rcs_one _)
      have HRq := hid hrq; have HRa := hid hra
      have HqB2 : Hid (∀ b' off', Aq = some ⟨b', off', none⟩ → b' ∉ [w.heap.size]) := hid (fun b' off' e' hm => by have h1 := (own_lt HR1.out b' (hqb b' off' e').2).1; have := HwB.out; simp at hm; omega)
      have HaB2 : Hid (∀ b' off', Aa = some ⟨b', off', none⟩ → b' ∉ [w.heap.size]) := hid (fun b' off' e' hm => by have h1 := (own_lt HR2.out b' (hab b' off' e').2).1; have := HwB.out; simp at hm; omega)
      have HqF : Hid (∀ b' off', Aq = some ⟨b', off', none⟩ → w.heap.size ≤ b') := hid (fun b' off' e' => by have h1 := (own_lt HR1.out b' (hqb b' off' e').2).1; have := HBw.out; omega)
      have HaF : Hid (∀ b' off', Aa = some ⟨b', off', none⟩ → w.heap.size ≤ b') := hid (fun b' off' e' => by have h1 := (own_lt HR2.out b' (hab b' off' e').2).1; have := HBw.out; omega)
      subst evq eva
      clear hq1 hq2 hq3 hrq hqb ha1 ha2 ha3 hra hab HR1 HR2 HNe HLt1 HLt2
      have c0 := OM0.out.cell 0; have c1 := OM0.out.cell 1; have c2 := OM0.out.cell 2; have c3 := OM0.out.cell 3
      go_wp2_with (first
        | (refine wp_storeOb rfl 39 _ _ rfl _ _ rfl rfl _ _ OR0.out rfl (by kernel_rfl) (by simp [Value.oneCell']) ?_; intro w5 hW5; try simp only [Act.put, List.setIfInBounds_toArray, List.set_cons_zero, List.set_cons_succ]; have o5 := Only.eq_all (Only.refl [w.heap.size] _) hW5 (Or.inl (by simp)); have K5 := K8.of_one o5 OR0.out (by decide); have OR5 := hid (OR0.out.eq_all hW5 rfl); have QB5 := hid (QB.out.eq_all hW5 (Or.inr (Nat.le_refl _))); have F1 := hid (RdS.only HRq.out o5 (fun b' off' e' _ => HqB2.out b' off' e')); have F2 := hid (RdS.only HRa.out o5 (fun b' off' e' _ => HaB2.out b' off' e')); have D1 := hid (HD1.out.keep K5); have D2 := hid (HD2.out.keep K5); clear hW5 K5 o5))
      have r0 := OR5.out.cell 0; have r1 := OR5.out.cell 1; have r2 := OR5.out.cell 2; have r3 := OR5.out.cell 3
      exact bodyPost_ret (v := .tuple #[.agg #[.int .i64 id, .int .i64 fl, .slice Aq LQ.length cq, .slice Aa LA.length ca], .int .i64 0]) (by simp [results, Try.results19, go_sem, *]) rfl ⟨Aq, Aa, cq, ca, LQ, LA, rfl, F1.out, F2.out, by rw [HKQ.out, HK2.out.1], by rw [HKA.out, HK2.out.2], D1.out, D2.out, QB5.out, HqF.out, HaF.out⟩
end Go.Proofs.Ytfoecnlbiaiibaa.nam
