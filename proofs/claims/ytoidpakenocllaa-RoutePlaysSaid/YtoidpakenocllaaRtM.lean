/-
  Chapter 8 (route): the document's Table, by a walk of each text. Conditions: none but those typed.
-/
import Derived.Test.YtoidpakenocllaaRtK
namespace Go.Proofs.Ytoidpakenocllaa.rou
set_option linter.unusedVariables false
set_option linter.unusedSimpArgs false
open Go.ChangeShapes Go.WideShapes Go.ChangeAt Go.RowKit Go.IntWalk Go.Lib
/-- The document's Table that holds routes. -/
structure DTV (w : World) (B g : Nat) (v : Value) (D : List Rt) : Prop where
  ob : Ob w g 30 #[v]
  own : w.ownsRow B 34 4 v D.length (rws Rt.enc D)
theorem DTV.only {S : List Nat} {w w' : World} {B g : Nat} {v : Value} {D : List Rt} (h : DTV w B g v D) (o : Only S w w') (hg : g ∉ S) (hv : ∀ j, v.ownBlock = some j → j ∉ S) : DTV w' B g v D := ⟨h.ob.only o hg, own_only h.own o hv⟩
theorem DTV.nil {w w' : World} {B g : Nat} {v : Value} {D : List Rt} (h : DTV w B g v D) (o : Only [] w w') : DTV w' B g v D := h.only o (by simp) (by simp)
set_option maxRecDepth 100000 in
theorem ahead1 (w : World) (x y : Rt) : Calls Try.prog 23 #[.agg #[.int .u32 x.net, .int .i64 x.bits, .int .u32 x.via, .int .i64 x.met], .agg #[.int .u32 y.net, .int .i64 y.bits, .int .u32 y.via, .int .i64 y.met]] w fun e w' => e = .returned (.bool (ahB x y)) ∧ Only [] w w' := by
  obtain ⟨xn, xb, xv, xm⟩ := x
  obtain ⟨yn, yb, yv, ym⟩ := y
  have Q0 : Hid (Only [] w ((w.alloc (.cells #[.int .u32 xn, .int .i64 xb, .int .u32 xv, .int .i64 xm] 34)).alloc (.cells #[.int .u32 yn, .int .i64 yb, .int .u32 yv, .int .i64 ym] 34))) := hid (((Only.refl [] w).alloc _).alloc _)
  by_cases h1 : xb = yb
  · subst h1
    by_cases h2 : xn = yn
    · subst h2
      have HE : Hid (ahB ⟨xn, xb, xv, xm⟩ ⟨xn, xb, yv, ym⟩ = decide (xm < ym)) := hid (by unfold ahB; apply decide_eq_decide.2; simp)
      go_enter Try.func23, Try.ntmps23
      go_wp2_with fail
      go_ret
      rw [HE.out]
      exact ⟨rfl, Q0.out⟩
    · have HE : Hid (ahB ⟨xn, xb, xv, xm⟩ ⟨yn, xb, yv, ym⟩ = decide (xn < yn)) := hid (by unfold ahB; apply decide_eq_decide.2; simp [h2])
      have z : (xn != yn) = true := by simpa using h2
      clear h2
      go_enter Try.func23, Try.ntmps23
      go_wp2_with fail
      go_ret
      rw [HE.out]
      exact ⟨rfl, Q0.out⟩
  · have HE : Hid (ahB ⟨xn, xb, xv, xm⟩ ⟨yn, yb, yv, ym⟩ = decide (yb < xb)) := hid (by unfold ahB; apply decide_eq_decide.2; simp [h1])
    have z : (xb != yb) = true := by simpa using h1
    clear h1
    go_enter Try.func23, Try.ntmps23
    go_wp2_with fail
    go_ret
    rw [HE.out]
    exact ⟨rfl, Q0.out⟩
def SpR (D : List Rt) (r : Rt) (i : Int) : Prop := (i = -1 ∧ ∀ y ∈ D, ¬ Key y r) ∨ ∃ (k : Nat) (h : k < D.length), i = (k : Int) ∧ Key D[k] r
def SpE (D : List Rt) (r : Rt) (w : World) (x : Ending) (w' : World) : Prop := (∃ i, x = .returned (.int .i64 i) ∧ SpR D r i) ∧ Only [] w w'
set_option maxRecDepth 100000 in
set_option maxHeartbeats 4000000 in
theorem spot1 (w : World) (B g : Nat) (v : Value) (D : List Rt) (r : Rt) (h : DTV w B g v D) (hb : D.length ≤ 100000) :
    Calls Try.prog 22 #[.pointer (some ⟨g, 0, none⟩), .agg #[.int .u32 r.net, .int .i64 r.bits, .int .u32 r.via, .int .i64 r.met]] w (SpE D r w) := by
  obtain ⟨rn, rb, rv, rm⟩ := r
  obtain ⟨A, c, rfl, -, -, -, hr, -, -⟩ := RdS.of_own h.own (rws_one enc_one _)
  have HR := hid hr; have HO := hid h.ob
  obtain ⟨n, hn⟩ : ∃ n, D.length = n := ⟨_, rfl⟩
  have HN := hid hn
  rw [hn] at HR HO hb
  clear h hr hn
  obtain ⟨W0, hW0⟩ : ∃ W0, w.alloc (.cells #[.int .u32 rn, .int .i64 rb, .int .u32 rv, .int .i64 rm] 34) = W0 := ⟨_, rfl⟩
  have OB : Hid (Ob W0 w.heap.size 34 #[.int .u32 rn, .int .i64 rb, .int .u32 rv, .int .i64 rm]) := hid (by rw [← hW0]; exact Ob.new _ _ _)
  have Q0 : Hid (Only [] w W0) := hid (by rw [← hW0]; exact (Only.refl [] w).alloc _)
  go_enter Try.func22, Try.ntmps22
  go_wp2_with fail
  go_loopw [5] (fun i wr => ∃ j : Nat, j ≤ n ∧ i = .int .i64 j ∧ Hid (∀ k (hk : k < D.length), k < j → ¬ Key D[k] ⟨rn, rb, rv, rm⟩) ∧ Hid (Only [] W0 wr)) (fun i _ => n - (RowKit.intOf i).toNat)
  case atStart => exact ⟨0, by omega, rfl, hid (fun k hk h => absurd h (by omega)), hid (Only.refl _ _)⟩
  case round =>
    obtain ⟨j, hj, rfl, HK, HQ⟩ := hrel
    have k0 := (HO.out.only (Q0.out.trans HQ.out) (by simp)).cell 0
    by_cases hjn : j < n
    · have hjl : j < D.length := by rw [HN.out]; exact hjn
      obtain ⟨b, off, rfl, -, hc1⟩ := (HR.out.only_nil (Q0.out.trans HQ.out)).elem HN.out enc_len (by omega) j hjl
      obtain ⟨y, hy⟩ : ∃ y, D[j] = y := ⟨_, rfl⟩
      have HY := hid hy
      rw [hy] at hc1
      obtain ⟨yn, yb, yv, ym⟩ := y
      have d0 : wr.cell? ⟨b, off + j * 4, none⟩ = some (.int .u32 yn) := by have := hc1 0 _ rfl; rwa [Nat.add_zero] at this
      have d1 := hc1 1 _ rfl; have d2 := hc1 2 _ rfl; have d3 := hc1 3 _ rfl
      obtain ⟨W4, hW4⟩ : ∃ W4, wr.alloc (.cells #[.int .u32 yn, .int .i64 yb, .int .u32 yv, .int .i64 ym] 34) = W4 := ⟨_, rfl⟩
      have OY : Hid (Ob W4 wr.heap.size 34 #[.int .u32 yn, .int .i64 yb, .int .u32 yv, .int .i64 ym]) := hid (by rw [← hW4]; exact Ob.new _ _ _)
      have o4 : Only [] wr W4 := by rw [← hW4]; exact (Only.refl [] wr).alloc _
      have Q4 := hid (HQ.out.trans o4)
      have hor := OB.out.only Q4.out (by simp)
      have y0 := OY.out.cell 0; have y1 := OY.out.cell 1; have y3 := OY.out.cell 3
      have r0 := hor.cell 0; have r1 := hor.cell 1; have r3 := hor.cell 3
      clear hc1 o4 hor hy
      have HKK : Hid (Key ⟨yn, yb, yv, ym⟩ ⟨rn, rb, rv, rm⟩ ↔ yn = rn ∧ yb = rb ∧ ym = rm) := hid Iff.rfl
      by_cases h0 : yn = rn
      · by_cases h1 : yb = rb
        · by_cases h3 : ym = rm
          · have z0 : (yn == rn) = true := (by simpa using h0); have H0 := hid h0; clear h0
            have z1 : (yb == rb) = true := (by simpa using h1); have H1 := hid h1; clear h1
            have z3 : (ym == rm) = true := (by simpa using h3); have H3 := hid h3; clear h3
            go_wp2_with fail
            go_ret
            exact ⟨⟨_, rfl, .inr ⟨j, by rw [HN.out]; exact hjn, rfl, by rw [HY.out]; exact HKK.out.2 ⟨H0.out, H1.out, H3.out⟩⟩⟩, Q0.out.trans Q4.out⟩
          · have z0 : (yn == rn) = true := (by simpa using h0); have H0 := hid h0; clear h0
            have z1 : (yb == rb) = true := (by simpa using h1); have H1 := hid h1; clear h1
            have z3 : (ym == rm) = false := (by simpa using h3); have H3 := hid h3; clear h3
            have HK2 : Hid (∀ k (hk : k < D.length), k < j + 1 → ¬ Key D[k] ⟨rn, rb, rv, rm⟩) := hid (fun k hk h9 => by
              rcases Nat.lt_or_ge k j with h8 | h8
              · exact HK.out k hk h8
              · obtain rfl : k = j := by omega
                rw [HY.out, HKK.out]; have := H0.out; first | omega | (have := H1.out; first | omega | (have := H3.out; omega)))
            go_wp2_with fail
            go_roundw
            case rel => exact ⟨j + 1, by omega, by first | rfl | go_num, HK2, Q4⟩
            case measure => simp [RowKit.intOf]; omega
        · have z0 : (yn == rn) = true := (by simpa using h0); have H0 := hid h0; clear h0
          have z1 : (yb == rb) = false := (by simpa using h1); have H1 := hid h1; clear h1
          have HK2 : Hid (∀ k (hk : k < D.length), k < j + 1 → ¬ Key D[k] ⟨rn, rb, rv, rm⟩) := hid (fun k hk h9 => by
            rcases Nat.lt_or_ge k j with h8 | h8
            · exact HK.out k hk h8
            · obtain rfl : k = j := by omega
              rw [HY.out, HKK.out]; have := H0.out; first | omega | (have := H1.out; first | omega | (have := H3.out; omega)))
          go_wp2_with fail
          go_roundw
          case rel => exact ⟨j + 1, by omega, by first | rfl | go_num, HK2, Q4⟩
          case measure => simp [RowKit.intOf]; omega
      · have z0 : (yn == rn) = false := (by simpa using h0); have H0 := hid h0; clear h0
        have HK2 : Hid (∀ k (hk : k < D.length), k < j + 1 → ¬ Key D[k] ⟨rn, rb, rv, rm⟩) := hid (fun k hk h9 => by
          rcases Nat.lt_or_ge k j with h8 | h8
          · exact HK.out k hk h8
          · obtain rfl : k = j := by omega
            rw [HY.out, HKK.out]; have := H0.out; first | omega | (have := H1.out; first | omega | (have := H3.out; omega)))
        go_wp2_with fail
        go_roundw
        case rel => exact ⟨j + 1, by omega, by first | rfl | go_num, HK2, Q4⟩
        case measure => simp [RowKit.intOf]; omega
    · go_wp2_with fail
      go_ret
      refine ⟨⟨_, rfl, .inl ⟨rfl, fun y hy hk => ?_⟩⟩, Q0.out.trans HQ.out⟩
      obtain ⟨k, hk2, rfl⟩ := List.getElem_of_mem hy
      exact HK.out k hk2 (by have := HN.out; omega) hk
set_option maxRecDepth 100000 in
theorem slC (g n : Nat) (hc : n ≤ 9223372036854775807) (W : World) : (Instr.slice 28 (.slice (some ⟨g, 0, none⟩) n n) (some (.int .i64 (n : Int))) none none).run Try.prog W = .ok (.slice (some ⟨g, 0, none⟩) 0 0) W := by
  go_simp
set_option maxRecDepth 100000 in
/-- The rest of a row of the call's own behind its first k elements. -/
theorem slFrom (w : World) (B : Nat) (A : Option Addr) (n c k : Nat) (D : List Rt) (hv : w.ownsRow B 34 4 (.slice A n c) D.length (rws Rt.enc D)) (hn : D.length = n) (hk : k ≤ n) : ∃ A2 c2, (∀ W, (Instr.slice 28 (.slice A n c) (some (.int .i64 (k : Int))) none none).run Try.prog W = .ok (.slice A2 (n - k) c2) W) ∧ RdS w A2 (n - k) 4 (rws Rt.enc (D.drop k)) ∧ (A2 = none → c2 = 0) ∧ (A2 = none ∨ ∃ b off, A2 = some ⟨b, off, none⟩) := by
  obtain ⟨A', c', e, hnc, hcm, _, hr, _, hA⟩ := RdS.of_own hv (rws_one enc_one _)
  injection e with e1 e2 e3
  subst e1; subst e3
  have hcc : c ≤ 9223372036854775807 := by unfold maxLen at hcm; omega
  rw [hn] at hr hnc
  rcases hv.2 with ⟨hv2, h0⟩ | ⟨g, cap, cur, hv2, _⟩
  · injection hv2 with e1 e2 e3
    subst e1; subst e2; subst e3
    obtain rfl : k = 0 := by omega
    obtain rfl : D = [] := List.eq_nil_of_length_eq_zero h0
    exact ⟨none, 0, fun W => by kernel_rfl, RdS.zero _ _ _, fun _ => rfl, .inl rfl⟩
  · injection hv2 with e1 e2 e3
    subst e1
    by_cases hkc : k < c
    · refine ⟨some ⟨g, k * 4, none⟩, c - k, fun W => slA g 0 n c k hkc hk hnc hcc W, ?_, fun e => (by cases e), .inr ⟨_, _, rfl⟩⟩
      have := hr.drop k hk
      rw [Nat.zero_add, rws_drop enc_len D k (by omega)] at this
      exact this
    · obtain rfl : k = c := by omega
      obtain rfl : n = k := by omega
      refine ⟨some ⟨g, 0, none⟩, 0, fun W => ?_, ?_, fun e => (by cases e), .inr ⟨_, _, rfl⟩⟩
      · rw [Nat.sub_self]
        exact slC g n hcc W
      · rw [Nat.sub_self, List.drop_of_length_le (by omega)]
        exact RdS.zero _ _ _
theorem slTo (w : World) (B : Nat) (A : Option Addr) (n c k : Nat) (D : List Rt) (hv : w.ownsRow B 34 4 (.slice A n c) D.length (rws Rt.enc D)) (hn : D.length = n) (hk : k ≤ n) : (∀ W, (Instr.slice 28 (.slice A n c) none (some (.int .i64 (k : Int))) none).run Try.prog W = .ok (.slice A k c) W) ∧ RdS w A k 4 (rws Rt.enc (D.take k)) ∧ (A = none → c = 0) ∧ (A = none ∨ ∃ b off, A = some ⟨b, off, none⟩) := by
  obtain ⟨A', c', e, hnc, hcm, hz, hr, _, hA⟩ := RdS.of_own hv (rws_one enc_one _)
  injection e with e1 e2 e3
  subst e1; subst e3
  have hcc : c ≤ 9223372036854775807 := by unfold maxLen at hcm; omega
  rw [hn] at hr hnc
  refine ⟨fun W => ?_, by rw [← rws_take enc_len D k (by omega)]; exact hr.take k hk, hz, hA.imp id fun ⟨b, h⟩ => ⟨b, 0, h⟩⟩
  rcases hv.2 with ⟨hv2, h0⟩ | ⟨g, cap, cur, hv2, _⟩
  · injection hv2 with e1 e2 e3
    subst e1; subst e2; subst e3
    obtain rfl : k = 0 := by omega
    kernel_rfl
  · injection hv2 with e1 e2 e3
    subst e1
    exact slB g n c k (by omega) hcc W
/-- What the document's Table has become: its new row lies in a block of its own. -/
structure DStep (w : World) (B g : Nat) (v : Value) (w' : World) (v' : Value) (D' : List Rt) : Prop where
  tv : DTV w' B g v' D'
  bk : v' = v ∨ ∀ j, v'.ownBlock = some j → w.heap.size ≤ j
  only : Only [g] w w'
theorem DTV.same {w w' : World} {B g : Nat} {v : Value} {D : List Rt} (h : DTV w B g v D) (o : Only [] w w') : DStep w B g v w' v D := ⟨h.nil o, .inl rfl, o.more (by simp)⟩
def AddD (B g : Nat) (v : Value) (D : List Rt) (r : Rt) (w : World) (x : Ending) (w' : World) : Prop := ∃ e D' v', x = .returned (.int .i64 e) ∧ AddR D r e D' ∧ DStep w B g v w' v' D'
def RemD (B g : Nat) (v : Value) (D : List Rt) (r : Rt) (w : World) (x : Ending) (w' : World) : Prop := ∃ e D' v', x = .returned (.int .i64 e) ∧ RemR D r e D' ∧ DStep w B g v w' v' D'
theorem dstep_put {w w9 : World} {B g : Nat} {v v' : Value} {D D' : List Rt} {n : Nat} (h : DTV w B g v D) (o : Only [] w w9) (hB : B ≤ w.heap.size) (hv : w9.ownsRow w.heap.size 34 4 v' n (rws Rt.enc D')) (hn : n = D'.length) : DStep w B g v (w9.setCell ⟨g, 0, none⟩ v') v' D' := by
  have hob := h.ob.only o (by simp)
  have hob2 := hob.set 0 v'
  rw [show (#[v] : Array Value).setIfInBounds 0 v' = #[v'] from rfl] at hob2
  have hlt := h.ob.lt
  subst hn
  refine ⟨⟨hob2, own_only (own_mono hv hB) ((Only.refl [g] w9).setCell (p := ⟨g, 0, none⟩) (Or.inl (by simp)) v') (fun j hj hm => ?_)⟩, .inr (fun j hj => (own_lt hv j hj).1), (o.more (by simp)).setCell (p := ⟨g, 0, none⟩) (Or.inl (by simp)) _⟩
  have := (own_lt hv j hj).1
  rw [show j = g from by simpa using hm] at this
  omega
theorem one3 (D : List Rt) (r : Rt) (j : Nat) (X : List Value) (h : ∀ u ∈ X, u ∈ rws Rt.enc (D.take j) ∨ u ∈ Rt.enc r ∨ u ∈ rws Rt.enc (D.drop j)) : ∀ u ∈ X, u.oneCell' = true := fun u hu => by
  rcases h u hu with h | h | h
  · exact rws_one enc_one _ u h
  · exact enc_one _ u h
  · exact rws_one enc_one _ u h
theorem rdS_rt (w : World) (r : Rt) : RdS (w.alloc (.cells #[.int .u32 r.net, .int .i64 r.bits, .int .u32 r.via, .int .i64 r.met] 34)) (some ⟨w.heap.size, 0, none⟩) 1 4 (Rt.enc r) :=
  ⟨rfl, enc_one r, fun _ => ⟨w.heap.size, 0, rfl, by simp, fun j u hj => by
    rw [Nat.zero_add, (Ob.new w 34 _).cell]
    rw [← hj]
    unfold Rt.enc
    simp⟩⟩
/-- Where a route stands that was laid behind those ahead of it. -/
theorem ins_at {D : List Rt} {r : Rt} {k : Nat} (hs : Srt D) (hk : k ≤ D.length) (h1 : ∀ j (hj : j < D.length), j < k → Ahd D[j] r) (h2 : ∀ (h : k < D.length), ¬ Ahd D[k] r) (hn : ∀ y ∈ D, ¬ Key y r) : (D.take k ++ [r] ++ D.drop k).Perm (r :: D) ∧ Srt (D.take k ++ [r] ++ D.drop k) := by
  constructor
  · rw [List.append_assoc]
    refine (List.perm_middle (l₁ := D.take k) (l₂ := D.drop k)).trans ?_
    rw [List.take_append_drop]
  · have hs2 : (D.take k ++ D.drop k).Pairwise Ahd := by rw [List.take_append_drop]; exact hs
    obtain ⟨p1, p2, p3⟩ := List.pairwise_append.1 hs2
    have hd : ∀ y ∈ D.drop k, Ahd r y := by
      intro y hy
      have hk2 : k < D.length := by
        rcases Nat.lt_or_ge k D.length with h | h
        · exact h
        · rw [List.drop_of_length_le h] at hy; cases hy
      have h0 : Ahd r D[k] := by
        rcases ahd_tri r D[k] with h | h | h
        · exact h
        · exact absurd h (h2 hk2)
        · exact absurd h.symm (hn _ (List.getElem_mem hk2))
      rw [List.drop_eq_getElem_cons hk2] at hy p2
      rcases List.mem_cons.1 hy with rfl | hy
      · exact h0
      · exact h0.trans ((List.pairwise_cons.1 p2).1 y hy)
    rw [List.append_assoc]
    refine List.pairwise_append.2 ⟨p1, List.pairwise_cons.2 ⟨hd, p2⟩, fun x hx y hy => ?_⟩
    have hxr : Ahd x r := by
      obtain ⟨j, hj, rfl⟩ := List.getElem_of_mem hx
      have hj2 : j < D.length ∧ j < k := by rw [List.length_take] at hj; omega
      rw [List.getElem_take]
      exact h1 j hj2.1 hj2.2
    rcases List.mem_cons.1 hy with rfl | hy
    · exact hxr
    · exact hxr.trans (hd y hy)
end Go.Proofs.Ytoidpakenocllaa.rou
