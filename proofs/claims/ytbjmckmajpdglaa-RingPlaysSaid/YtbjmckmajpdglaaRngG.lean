/-
  Chapter 13 (ring): what is written into a Ring comes out in the same row, the law by a walk of its text. Conditions: none but those typed.
-/
import Derived.Test.YtbjmckmajpdglaaRngE
import Derived.Test.YtbjmckmajpdglaaEvK13
namespace Go.Proofs.Ytbjmckmajpdglaa.rng
set_option linter.unusedVariables false
set_option linter.unusedSimpArgs false
open Go.ChangeShapes Go.WideShapes Go.ChangeAt Go.RowKit Go.IntWalk Go.Lib
/-- A Ring that holds l. -/
def St (w : World) (g b N : Nat) (l : List Int) : Prop := ∃ f z, RObj w g b N f l.length ∧ Ob w b 5 (rowV .u8 z) ∧ (∀ y ∈ z, (Lit.int .u8 y).wf = true) ∧ Rel N f z l
theorem St.only {w w' : World} {g b N : Nat} {l : List Int} (h : St w g b N l) (o : Only [] w w') : St w' g b N l := by
  obtain ⟨f, z, h1, h2, h3, h4⟩ := h
  exact ⟨f, z, h1.only o (by simp), h2.only o (by simp), h3, h4⟩
theorem St.grown {w w' : World} {g b N : Nat} {l : List Int} {row : Option Nat} (h : St w g b N l) (hg : w.grownBy w' row) (h1 : row ≠ some g) (h2 : row ≠ some b) : St w' g b N l := by
  obtain ⟨f, z, k1, k2, k3, k4⟩ := h
  exact ⟨f, z, k1.grown hg h1, k2.grown hg h2, k3, k4⟩
theorem St.len_le {w : World} {g b N : Nat} {l : List Int} (h : St w g b N l) : l.length ≤ N := by
  obtain ⟨f, z, h1, h2, h3, h4⟩ := h
  exact h4.fits
theorem St.wf {w : World} {g b N : Nat} {l : List Int} (h : St w g b N l) : ∀ x ∈ l, (Lit.int .u8 x).wf = true := by
  obtain ⟨f, z, h1, h2, h3, h4⟩ := h
  intro x hx
  obtain ⟨j, hj, rfl⟩ := List.mem_iff_getElem.1 hx
  have e := h4.at_ j hj
  have hl : (f + j) % N < z.length := by rw [h4.len]; exact Nat.mod_lt _ (by have := h4.first; omega)
  rw [List.getD_eq_getElem?_getD, List.getElem?_eq_getElem hl, List.getD_eq_getElem?_getD, List.getElem?_eq_getElem hj] at e
  simp only [Option.getD_some] at e
  rw [← e]
  exact h3 _ (List.getElem_mem hl)
theorem newSt (w : World) (N : Nat) (hN : 1 ≤ N ∧ N ≤ 1048560) : Calls Try.prog 10 #[.int .i64 (N : Int)] w fun x w' => x = .returned (.tuple #[.pointer (some ⟨w.heap.size + 1, 0, none⟩), .int .i64 0]) ∧ St w' (w.heap.size + 1) w.heap.size N [] ∧ Only [] w w' :=
  (new w N hN).mono (by
    rintro x w' ⟨h1, h2, h3, h4⟩
    refine ⟨h1, ⟨0, _, h2, h3, fun y hy => ?_, ⟨by simp, by omega, by simp, fun j hj => by simp at hj⟩⟩, h4⟩
    rw [List.mem_replicate] at hy
    rw [hy.2]; decide)
theorem writeSt (w : World) (g b N : Nat) (l p : List Int) (A : Option Addr) (n c : Nat) (H : St w g b N l) (hN : 1 ≤ N ∧ N ≤ 1048560) (hgb : g ≠ b) (P : Rd .u8 w A n p) (hnc : n ≤ c) (hc : c ≤ 9223372036854775807) (hA : 0 < n → ∀ x off, A = some ⟨x, off, none⟩ → x ≠ g ∧ x ≠ b) (k : Nat) (hk : k = min n (N - l.length)) :
    Calls Try.prog 13 #[.pointer (some ⟨g, 0, none⟩), .slice A n c] w fun x w' => x = .returned (.int .i64 (k : Nat)) ∧ St w' g b N (l ++ p.take k) ∧ Only [g, b] w w' := by
  obtain ⟨f, z, h1, h2, h3, h4⟩ := H
  refine (write w g b N f z l p A n c h1 h2 h3 h4 hN hgb P hnc hc hA k hk).mono ?_
  rintro x w' ⟨e, k1, ⟨z', k2, k3, k4⟩, k5⟩
  refine ⟨e, ⟨f, z', ?_, k2, k3, k4⟩, k5⟩
  rw [List.length_append, List.length_take, P.len, show min k n = k from by omega]
  exact k1
theorem peekSt (w : World) (g b N : Nat) (l : List Int) (a n : Int) (H : St w g b N l) (hN : 1 ≤ N ∧ N ≤ 1048560) (hgb : g ≠ b) (ha : -9223372036854775808 ≤ a ∧ a ≤ 9223372036854775807) (hn : -9223372036854775808 ≤ n ∧ n ≤ 9223372036854775807) :
    Calls Try.prog 17 #[.pointer (some ⟨g, 0, none⟩), .int .i64 a, .int .i64 n] w (PEnd w (peekL l a n)) := by
  obtain ⟨f, z, h1, h2, h3, h4⟩ := H
  exact peek w g b N f z l a n h1 h2 h3 h4 hN hgb ha hn
theorem dropSt (w : World) (g b N : Nat) (l : List Int) (n : Int) (H : St w g b N l) (hN : 1 ≤ N ∧ N ≤ 1048560) (hgb : g ≠ b) (hn : -9223372036854775808 ≤ n ∧ n ≤ 9223372036854775807) :
    Calls Try.prog 20 #[.pointer (some ⟨g, 0, none⟩), .int .i64 n] w fun x w' => x = .returned (.int .i64 (dropN l n : Nat)) ∧ St w' g b N (l.drop (dropN l n)) ∧ Only [g] w w' := by
  obtain ⟨f, z, h1, h2, h3, h4⟩ := H
  refine (drop w g b N f z l n h1 h4 hN hn).mono ?_
  rintro x w' ⟨e, f', k1, k2, k3⟩
  exact ⟨e, ⟨f', z, k2, h2.only k3 (by simp; omega), h3, k1⟩, k3⟩
theorem notin1 {a x B : Nat} (h : B ≤ x) (ha : a < B) : x ∉ [a] := by simp; omega
theorem notin2 {a b x B : Nat} (h : B ≤ x) (ha : a < B) (hb : b < B) : x ∉ [a, b] := by simp; omega
theorem in1 {a x B : Nat} (h : x ∈ [a]) (ha : B ≤ a) : B ≤ x := by simp at h; omega
theorem in2 {a b x B : Nat} (h : x ∈ [a, b]) (ha : B ≤ a) (hb : B ≤ b) : B ≤ x := by simp at h; omega
/-- How the law stands at a cut. -/
def RInv (w wr : World) (g b N B : Nat) (bs : List Int) (i : Nat) (vo : Value) : Prop := ∃ l ol, St wr g b N l ∧ Own .u8 5 wr B vo ol ∧ ol ++ l = bs.take i ∧ Only [] w wr ∧ B ≤ wr.heap.size
set_option maxRecDepth 100000 in
set_option maxHeartbeats 1000000 in
theorem row (w : World) (room : Int) (A : Option Addr) (n c : Nat) (bs : List Int) (AC : Option Addr) (nC cC : Nat) (cs : List Int) (hb : Rd .u8 w A n bs) (hnc : n ≤ c) (hcm : c ≤ 9223372036854775807) (hA0 : A = none → c = 0) (hc : Rd .i64 w AC nC cs) (hncC : nC ≤ 140737488355328) (hroom : -9223372036854775808 ≤ room ∧ room ≤ 9223372036854775807) :
    Calls Try.prog 4 #[.int .i64 room, .slice A n c, .slice AC nC cC] w (fun e w' => e = .returned (.bool true) ∧ Only [] w w') := by
  have HK := hid (ev.known w)
  by_cases h1 : n > 6000
  · have h1' : (n : Int) > 6000 := by omega
    go_enter Try.func4, Try.ntmps4
    go_wp2_with fail
    refine (HK.out).mono ?_
    rintro x w2 ⟨rfl, o⟩
    have HB := hid o; clear o
    go_wp2
    go_ret
    exact ⟨rfl, HB.out⟩
  · by_cases h2 : room < 1
    · have h1' : ¬ (n : Int) > 6000 := by omega
      go_enter Try.func4, Try.ntmps4
      go_wp2_with fail
      refine (HK.out).mono ?_
      rintro x w2 ⟨rfl, o⟩
      have HB := hid o; clear o
      go_wp2
      go_ret
      exact ⟨rfl, HB.out⟩
    · by_cases h3 : room > 6000
      · have h1' : ¬ (n : Int) > 6000 := by omega
        go_enter Try.func4, Try.ntmps4
        go_wp2_with fail
        refine (HK.out).mono ?_
        rintro x w2 ⟨rfl, o⟩
        have HB := hid o; clear o
        go_wp2
        go_ret
        exact ⟨rfl, HB.out⟩
      · by_cases h4 : nC > 3000
        · have h1' : ¬ (n : Int) > 6000 := by omega
          have h4' : (nC : Int) > 3000 := by omega
          go_enter Try.func4, Try.ntmps4
          go_wp2_with fail
          refine (HK.out).mono ?_
          rintro x w2 ⟨rfl, o⟩
          have HB := hid o; clear o
          go_wp2
          go_ret
          exact ⟨rfl, HB.out⟩
        · have h1' : ¬ (n : Int) > 6000 := by omega
          have h4' : ¬ (nC : Int) > 3000 := by omega
          obtain ⟨N, rfl⟩ : ∃ N : Nat, room = (N : Int) := ⟨room.toNat, by omega⟩
          have hN : 1 ≤ N ∧ N ≤ 1048560 := by omega
          have HRB := hid hb; have HRC := hid hc; clear hb hc HK
          go_enter Try.func4, Try.ntmps4
          go_wp2_with fail
          refine (newSt w N hN).mono ?_
          rintro x w1 ⟨rfl, s1, o1⟩
          have INV : Hid (RInv w w1 (w.heap.size + 1) w.heap.size N w1.heap.size bs 0 (.slice none 0 0)) := hid ⟨[], [], s1, Own.nil _ _ _ _, by simp, o1, Nat.le_refl _⟩
          have hw1 : w.heap.size + 1 < w1.heap.size := by obtain ⟨f, z, k1, _⟩ := s1; exact k1.lt
          clear s1 o1
          have HBL : Hid (∀ x off, A = some ⟨x, off, none⟩ → 0 < n → x < w.heap.size) := hid (fun x off e h0 => by
            obtain ⟨b2, off2, e2, hb2, _⟩ := HRB.out.at_ h0
            rw [e] at e2; injection e2 with e2; injection e2 with e2 e3; subst e2; exact hb2)
          generalize w1.heap.size = B at *
          go_wp2_with fail
          go_loopw [9, 10, 11] (fun vo inn i wr => ∃ (j m : Nat), j ≤ nC ∧ m ≤ n ∧ i = .int .i64 j ∧ inn = .int .i64 m ∧ Hid (RInv w wr (w.heap.size + 1) w.heap.size N B bs m vo)) (fun _ _ i _ => nC - (intOf i).toNat)
          case atStart => exact ⟨0, 0, by omega, by omega, rfl, rfl, INV⟩
          case round =>
            clear INV
            obtain ⟨j, m, hj, hm, rfl, rfl, INV⟩ := hrel
            by_cases hlt : j < nC
            · obtain ⟨l, ol, hs, ho, he, hon, hsz⟩ := INV.out
              have HS := hid hs; have HO := hid ho; have HE := hid he; have HON := hid hon
              clear hs ho he hon INV
              have hlN := HS.out.len_le
              have hol : ol.length + l.length ≤ m := by have := congrArg List.length HE.out; simp at this; omega
              obtain ⟨bc, oc, rfl, hbc, hcc⟩ := (HRC.out.only_nil HON.out).at_ (by omega)
              have c0 := hcc j hlt
              have hyw := HRC.out.getD_wf j hlt
              clear hcc
              obtain ⟨y, hy⟩ : ∃ y, cs.getD j 0 = y := ⟨_, rfl⟩
              rw [hy] at c0 hyw
              have hyb := i64Bd hyw
              clear hyw
              obtain ⟨q, hq⟩ : ∃ q : Nat, y % 256 = (q : Int) := ⟨(y % 256).toNat, by omega⟩
              obtain ⟨r, hr⟩ : ∃ r : Nat, y / 256 % 256 = (r : Int) := ⟨(y / 256 % 256).toNat, by omega⟩
              have hb1 : bits .and .i64 y 255 = q := by rw [i64_and255, hq]
              have hb2 : bits .and .i64 (y / 256) 255 = r := by rw [i64_and255, hr]
              have hqb : q < 256 := by omega
              have hrb : r < 256 := by omega
              clear hq hr
              by_cases hmn : n ≤ m + q
              · have hmi : ¬ ((m : Int) + q < n) := by omega
                by_cases hcm2 : m = c
                · subst hcm2
                  have HPS : Hid (∀ W : World, Rd .u8 W A n bs → Rd .u8 W A 0 []) := hid (fun W h => Rd.nil _ _ _)
                  have HPA : Hid (0 < 0 → ∀ x off, A = some ⟨x, off, none⟩ → x ≠ w.heap.size + 1 ∧ x ≠ w.heap.size) := hid (fun h0 => absurd h0 (by omega))
                  obtain ⟨k, hk⟩ : ∃ k, k = min 0 (N - l.length) := ⟨_, rfl⟩
                  have hk0 : k = 0 := by omega
                  have hk1 : k ≤ 0 := by omega
                  have HKD := hid hk; clear hk
                  go_wp2_with fail
                  refine (writeSt wr (w.heap.size + 1) w.heap.size N l ([] : List Int) (A) 0 (0) HS.out hN (by omega) (HPS.out _ (HRB.out.only_nil HON.out)) (by omega) (by omega) HPA.out k HKD.out).mono ?_
                  rintro x w2 ⟨rfl, s2, o2⟩
                  have HS2 := hid s2
                  have HO := hid (HO.out.only o2 (fun g hg => notin2 (HO.out.lt g hg).1 (by omega) (by omega)))
                  have HON : Hid (Only [] w w2) := hid (HON.out.fresh o2 (fun i hi => .inr (in2 hi (by omega) (by omega))))
                  have hsz2 : B ≤ w2.heap.size := Nat.le_trans hsz o2.size
                  have HTK : Hid (ol ++ (l ++ ([] : List Int).take k) = bs.take (m + k)) := hid (by subst hk0; simpa using HE.out)
                  clear s2 o2 HS HPS HPA c0
                  generalize hl2 : l ++ ([] : List Int).take k = l2 at *
                  clear hl2
                  have hll2 := HS2.out.len_le
                  obtain ⟨_, _, e', _, hc'⟩ := (HRC.out.only_nil HON.out).at_ (by omega)
                  injection e' with e'; injection e' with e1 e2; subst e1 e2
                  have c0 := hc' j hlt
                  clear hc'
                  rw [hy] at c0
                  go_wp2_with fail
                  refine (peekSt w2 (w.heap.size + 1) w.heap.size N l2 0 r HS2.out hN (by omega) (by omega) (by omega)).mono ?_
                  rintro x w3 ⟨vp, rfl, hvp, o3⟩
                  have HS3 := hid (HS2.out.only o3)
                  have HO := hid (HO.out.only_nil o3)
                  have HON : Hid (Only [] w w3) := hid (HON.out.trans o3)
                  have hsz3 : B ≤ w3.heap.size := Nat.le_trans hsz2 o3.size
                  have HPK : Hid (peekL l2 0 r = l2.take r) := hid (by unfold peekL; split <;> first | (rw [show r = 0 from by omega]; simp) | simp)
                  rw [HPK.out] at hvp
                  have HVP := hid (hvp.mono_base hsz2)
                  obtain ⟨A2, c2, ev2, hc2, hm2, r2, hb2⟩ := hvp.slice
                  have N2 := hid (own_notNil hvp ev2)
                  have R2 := hid r2
                  obtain ⟨d, hd⟩ : ∃ d, min r l2.length = d := ⟨_, rfl⟩
                  have hdb : d ≤ 255 ∧ d ≤ l2.length := by omega
                  have HD := hid hd
                  have HLT : Hid ((l2.take r).length = d) := hid (by rw [← hd]; simp)
                  clear hd
                  rw [HLT.out] at ev2 hc2
                  have R2 : Hid (Rd .u8 w3 A2 d (l2.take r)) := hid (by have h5 := R2.out; rwa [HLT.out] at h5)
                  subst ev2
                  have HDN : Hid (dropN l2 (d : Int) = d) := hid (by unfold dropN; omega)
                  have HTD : Hid (l2.take r = l2.take d) := hid (by
                    have h6 := HD.out
                    rcases Nat.le_total r l2.length with h7 | h7
                    · rw [show d = r from by omega]
                    · rw [List.take_of_length_le h7, List.take_of_length_le (by omega)])
                  clear hvp o3 r2 hb2 HS2 c0
                  go_wp2_with fail
                  refine (dropSt w3 (w.heap.size + 1) w.heap.size N l2 d HS3.out hN (by omega) (by omega)).mono ?_
                  rw [HDN.out]
                  rintro x w4 ⟨rfl, s4, o4⟩
                  have HS4 := hid s4
                  have HO := hid (HO.out.only o4 (fun g hg => notin1 (HO.out.lt g hg).1 (by omega)))
                  have R2 : Hid (Rd .u8 w4 A2 d (l2.take r)) := hid (R2.out.only o4 (fun bb off e hbb => notin1 (HVP.out.lt bb (by rw [e]; rfl)).1 (by omega)))
                  have HON : Hid (Only [] w w4) := hid (HON.out.fresh o4 (fun i hi => .inr (in1 hi (by omega))))
                  have hsz4 : B ≤ w4.heap.size := Nat.le_trans hsz3 o4.size
                  clear s4 o4 HS3 HVP
                  go_wp2_with (at_builtin; refine wpList_app _ rfl (.tmp 79) (.tmp 80) _ rfl hlp.elemB B u9 ol rfl ?c1 A2 d c2 (l2.take r) rfl ?c2 ?c3 ?c4 ?c5 ?c6 ?_)
                  case c1 => exact HO.out
                  case c2 => exact R2.out
                  case c3 => exact N2.out
                  case c4 => omega
                  case c5 => unfold maxLen; omega
                  case c6 => exact hsz4
                  intro v5 w5 hv hg hb
                  have INV' : Hid (RInv w w5 (w.heap.size + 1) w.heap.size N B bs (m + k) v5) := hid ⟨l2.drop d, ol ++ l2.take r, HS4.out.grown hg (HO.out.ne_low (by omega)) (HO.out.ne_low (by omega)), hv, by
                    rw [List.append_assoc, HTD.out, List.take_append_drop]; exact HTK.out, HON.out.of_grown hg (fun k hk => .inr (by have := (HO.out.lt k hk).1; omega)), Nat.le_trans hsz4 hg.size⟩
                  clear hv hg hb R2 N2 HO HS4 HON
                  go_wp2
                  go_roundw
                  case rel => exact ⟨j + 1, m + k, by omega, by omega, by go_num, by go_num, INV'⟩
                  case measure => simp [intOf]; omega
                · have hcm3 : ¬ c = m := fun h => hcm2 h.symm
                  have HHI : Hid (m ≤ n ∧ n ≤ n) := hid (by omega)
                  have hhm : (m : Int) ≤ n := by omega
                  have hhc : (n : Int) ≤ c := by omega
                  have HPS : Hid (∀ W : World, Rd .u8 W A n bs → Rd .u8 W (Option.map (fun x => x.add m) A) (n - m) ((bs.drop m).take (n - m))) := hid (fun W h => by
                    by_cases h0 : n - m = 0
                    · rw [h0, List.take_zero]; exact Rd.nil _ _ _
                    · obtain ⟨b2, off2, rfl, _, _⟩ := h.at_ (by omega)
                      rw [Option.map_some, addr_plus]
                      exact (h.drop m (by omega)).take (n - m) (by omega))
                  have HPA : Hid (0 < n - m → ∀ x off, (Option.map (fun x => x.add m) A) = some ⟨x, off, none⟩ → x ≠ w.heap.size + 1 ∧ x ≠ w.heap.size) := hid (fun h0 x off e => by
                    obtain ⟨b2, off2, rfl, _, _⟩ := HRB.out.at_ (by omega)
                    have := HBL.out b2 off2 rfl (by omega)
                    rw [Option.map_some, addr_plus] at e; injection e with e; injection e with e1 e2; omega)
                  obtain ⟨k, hk⟩ : ∃ k, k = min (n - m) (N - l.length) := ⟨_, rfl⟩
                  have hk1 : k ≤ (n - m) := by omega
                  have HKD := hid hk; clear hk
                  go_wp2_with fail
                  refine (writeSt wr (w.heap.size + 1) w.heap.size N l ((bs.drop m).take (n - m)) (Option.map (fun x => x.add m) A) (n - m) (c - m) HS.out hN (by omega) (HPS.out _ (HRB.out.only_nil HON.out)) (by omega) (by omega) HPA.out k HKD.out).mono ?_
                  rintro x w2 ⟨rfl, s2, o2⟩
                  have HS2 := hid s2
                  have HO := hid (HO.out.only o2 (fun g hg => notin2 (HO.out.lt g hg).1 (by omega) (by omega)))
                  have HON : Hid (Only [] w w2) := hid (HON.out.fresh o2 (fun i hi => .inr (in2 hi (by omega) (by omega))))
                  have hsz2 : B ≤ w2.heap.size := Nat.le_trans hsz o2.size
                  have HTK : Hid (ol ++ (l ++ ((bs.drop m).take (n - m)).take k) = bs.take (m + k)) := hid (by rw [← List.append_assoc, HE.out, List.take_take, Nat.min_eq_left hk1, List.take_add])
                  clear s2 o2 HS HPS HPA c0 hhm hhc
                  generalize hl2 : l ++ ((bs.drop m).take (n - m)).take k = l2 at *
                  clear hl2
                  have hll2 := HS2.out.len_le
                  obtain ⟨_, _, e', _, hc'⟩ := (HRC.out.only_nil HON.out).at_ (by omega)
                  injection e' with e'; injection e' with e1 e2; subst e1 e2
                  have c0 := hc' j hlt
                  clear hc'
                  rw [hy] at c0
                  go_wp2_with fail
                  refine (peekSt w2 (w.heap.size + 1) w.heap.size N l2 0 r HS2.out hN (by omega) (by omega) (by omega)).mono ?_
                  rintro x w3 ⟨vp, rfl, hvp, o3⟩
                  have HS3 := hid (HS2.out.only o3)
                  have HO := hid (HO.out.only_nil o3)
                  have HON : Hid (Only [] w w3) := hid (HON.out.trans o3)
                  have hsz3 : B ≤ w3.heap.size := Nat.le_trans hsz2 o3.size
                  have HPK : Hid (peekL l2 0 r = l2.take r) := hid (by unfold peekL; split <;> first | (rw [show r = 0 from by omega]; simp) | simp)
                  rw [HPK.out] at hvp
                  have HVP := hid (hvp.mono_base hsz2)
                  obtain ⟨A2, c2, ev2, hc2, hm2, r2, hb2⟩ := hvp.slice
                  have N2 := hid (own_notNil hvp ev2)
                  have R2 := hid r2
                  obtain ⟨d, hd⟩ : ∃ d, min r l2.length = d := ⟨_, rfl⟩
                  have hdb : d ≤ 255 ∧ d ≤ l2.length := by omega
                  have HD := hid hd
                  have HLT : Hid ((l2.take r).length = d) := hid (by rw [← hd]; simp)
                  clear hd
                  rw [HLT.out] at ev2 hc2
                  have R2 : Hid (Rd .u8 w3 A2 d (l2.take r)) := hid (by have h5 := R2.out; rwa [HLT.out] at h5)
                  subst ev2
                  have HDN : Hid (dropN l2 (d : Int) = d) := hid (by unfold dropN; omega)
                  have HTD : Hid (l2.take r = l2.take d) := hid (by
                    have h6 := HD.out
                    rcases Nat.le_total r l2.length with h7 | h7
                    · rw [show d = r from by omega]
                    · rw [List.take_of_length_le h7, List.take_of_length_le (by omega)])
                  clear hvp o3 r2 hb2 HS2 c0
                  go_wp2_with fail
                  refine (dropSt w3 (w.heap.size + 1) w.heap.size N l2 d HS3.out hN (by omega) (by omega)).mono ?_
                  rw [HDN.out]
                  rintro x w4 ⟨rfl, s4, o4⟩
                  have HS4 := hid s4
                  have HO := hid (HO.out.only o4 (fun g hg => notin1 (HO.out.lt g hg).1 (by omega)))
                  have R2 : Hid (Rd .u8 w4 A2 d (l2.take r)) := hid (R2.out.only o4 (fun bb off e hbb => notin1 (HVP.out.lt bb (by rw [e]; rfl)).1 (by omega)))
                  have HON : Hid (Only [] w w4) := hid (HON.out.fresh o4 (fun i hi => .inr (in1 hi (by omega))))
                  have hsz4 : B ≤ w4.heap.size := Nat.le_trans hsz3 o4.size
                  clear s4 o4 HS3 HVP
                  go_wp2_with (at_builtin; refine wpList_app _ rfl (.tmp 79) (.tmp 80) _ rfl hlp.elemB B u9 ol rfl ?c1 A2 d c2 (l2.take r) rfl ?c2 ?c3 ?c4 ?c5 ?c6 ?_)
                  case c1 => exact HO.out
                  case c2 => exact R2.out
                  case c3 => exact N2.out
                  case c4 => omega
                  case c5 => unfold maxLen; omega
                  case c6 => exact hsz4
                  intro v5 w5 hv hg hb
                  have INV' : Hid (RInv w w5 (w.heap.size + 1) w.heap.size N B bs (m + k) v5) := hid ⟨l2.drop d, ol ++ l2.take r, HS4.out.grown hg (HO.out.ne_low (by omega)) (HO.out.ne_low (by omega)), hv, by
                    rw [List.append_assoc, HTD.out, List.take_append_drop]; exact HTK.out, HON.out.of_grown hg (fun k hk => .inr (by have := (HO.out.lt k hk).1; omega)), Nat.le_trans hsz4 hg.size⟩
                  clear hv hg hb R2 N2 HO HS4 HON
                  go_wp2
                  go_roundw
                  case rel => exact ⟨j + 1, m + k, by omega, by omega, by go_num, by go_num, INV'⟩
                  case measure => simp [intOf]; omega
              · have hmi : ((m : Int) + q < n) := by omega
                obtain ⟨hx, hh⟩ : ∃ hx : Nat, m + q = hx := ⟨_, rfl⟩
                have hh2 : (m : Int) + q = hx := by omega
                have hh3 : hx ≤ n := by omega
                have hh4 : (hx : Int) < n := by omega
                have hh5 : m ≤ hx := by omega
                have hcm3 : ¬ c = m := by omega
                have HHI : Hid (m ≤ hx ∧ hx ≤ n) := hid (by omega)
                have hhm : (m : Int) ≤ hx := by omega
                have hhc : (hx : Int) ≤ c := by omega
                have HPS : Hid (∀ W : World, Rd .u8 W A n bs → Rd .u8 W (Option.map (fun x => x.add m) A) (hx - m) ((bs.drop m).take (hx - m))) := hid (fun W h => by
                  by_cases h0 : hx - m = 0
                  · rw [h0, List.take_zero]; exact Rd.nil _ _ _
                  · obtain ⟨b2, off2, rfl, _, _⟩ := h.at_ (by omega)
                    rw [Option.map_some, addr_plus]
                    exact (h.drop m (by omega)).take (hx - m) (by omega))
                have HPA : Hid (0 < hx - m → ∀ x off, (Option.map (fun x => x.add m) A) = some ⟨x, off, none⟩ → x ≠ w.heap.size + 1 ∧ x ≠ w.heap.size) := hid (fun h0 x off e => by
                  obtain ⟨b2, off2, rfl, _, _⟩ := HRB.out.at_ (by omega)
                  have := HBL.out b2 off2 rfl (by omega)
                  rw [Option.map_some, addr_plus] at e; injection e with e; injection e with e1 e2; omega)
                obtain ⟨k, hk⟩ : ∃ k, k = min (hx - m) (N - l.length) := ⟨_, rfl⟩
                have hk1 : k ≤ (hx - m) := by omega
                have HKD := hid hk; clear hk
                go_wp2_with fail
                refine (writeSt wr (w.heap.size + 1) w.heap.size N l ((bs.drop m).take (hx - m)) (Option.map (fun x => x.add m) A) (hx - m) (c - m) HS.out hN (by omega) (HPS.out _ (HRB.out.only_nil HON.out)) (by omega) (by omega) HPA.out k HKD.out).mono ?_
                rintro x w2 ⟨rfl, s2, o2⟩
                have HS2 := hid s2
                have HO := hid (HO.out.only o2 (fun g hg => notin2 (HO.out.lt g hg).1 (by omega) (by omega)))
                have HON : Hid (Only [] w w2) := hid (HON.out.fresh o2 (fun i hi => .inr (in2 hi (by omega) (by omega))))
                have hsz2 : B ≤ w2.heap.size := Nat.le_trans hsz o2.size
                have HTK : Hid (ol ++ (l ++ ((bs.drop m).take (hx - m)).take k) = bs.take (m + k)) := hid (by rw [← List.append_assoc, HE.out, List.take_take, Nat.min_eq_left hk1, List.take_add])
                clear s2 o2 HS HPS HPA c0 hhm hhc
                generalize hl2 : l ++ ((bs.drop m).take (hx - m)).take k = l2 at *
                clear hl2
                have hll2 := HS2.out.len_le
                obtain ⟨_, _, e', _, hc'⟩ := (HRC.out.only_nil HON.out).at_ (by omega)
                injection e' with e'; injection e' with e1 e2; subst e1 e2
                have c0 := hc' j hlt
                clear hc'
                rw [hy] at c0
                go_wp2_with fail
                refine (peekSt w2 (w.heap.size + 1) w.heap.size N l2 0 r HS2.out hN (by omega) (by omega) (by omega)).mono ?_
                rintro x w3 ⟨vp, rfl, hvp, o3⟩
                have HS3 := hid (HS2.out.only o3)
                have HO := hid (HO.out.only_nil o3)
                have HON : Hid (Only [] w w3) := hid (HON.out.trans o3)
                have hsz3 : B ≤ w3.heap.size := Nat.le_trans hsz2 o3.size
                have HPK : Hid (peekL l2 0 r = l2.take r) := hid (by unfold peekL; split <;> first | (rw [show r = 0 from by omega]; simp) | simp)
                rw [HPK.out] at hvp
                have HVP := hid (hvp.mono_base hsz2)
                obtain ⟨A2, c2, ev2, hc2, hm2, r2, hb2⟩ := hvp.slice
                have N2 := hid (own_notNil hvp ev2)
                have R2 := hid r2
                obtain ⟨d, hd⟩ : ∃ d, min r l2.length = d := ⟨_, rfl⟩
                have hdb : d ≤ 255 ∧ d ≤ l2.length := by omega
                have HD := hid hd
                have HLT : Hid ((l2.take r).length = d) := hid (by rw [← hd]; simp)
                clear hd
                rw [HLT.out] at ev2 hc2
                have R2 : Hid (Rd .u8 w3 A2 d (l2.take r)) := hid (by have h5 := R2.out; rwa [HLT.out] at h5)
                subst ev2
                have HDN : Hid (dropN l2 (d : Int) = d) := hid (by unfold dropN; omega)
                have HTD : Hid (l2.take r = l2.take d) := hid (by
                  have h6 := HD.out
                  rcases Nat.le_total r l2.length with h7 | h7
                  · rw [show d = r from by omega]
                  · rw [List.take_of_length_le h7, List.take_of_length_le (by omega)])
                clear hvp o3 r2 hb2 HS2 c0
                go_wp2_with fail
                refine (dropSt w3 (w.heap.size + 1) w.heap.size N l2 d HS3.out hN (by omega) (by omega)).mono ?_
                rw [HDN.out]
                rintro x w4 ⟨rfl, s4, o4⟩
                have HS4 := hid s4
                have HO := hid (HO.out.only o4 (fun g hg => notin1 (HO.out.lt g hg).1 (by omega)))
                have R2 : Hid (Rd .u8 w4 A2 d (l2.take r)) := hid (R2.out.only o4 (fun bb off e hbb => notin1 (HVP.out.lt bb (by rw [e]; rfl)).1 (by omega)))
                have HON : Hid (Only [] w w4) := hid (HON.out.fresh o4 (fun i hi => .inr (in1 hi (by omega))))
                have hsz4 : B ≤ w4.heap.size := Nat.le_trans hsz3 o4.size
                clear s4 o4 HS3 HVP
                go_wp2_with (at_builtin; refine wpList_app _ rfl (.tmp 79) (.tmp 80) _ rfl hlp.elemB B u9 ol rfl ?c1 A2 d c2 (l2.take r) rfl ?c2 ?c3 ?c4 ?c5 ?c6 ?_)
                case c1 => exact HO.out
                case c2 => exact R2.out
                case c3 => exact N2.out
                case c4 => omega
                case c5 => unfold maxLen; omega
                case c6 => exact hsz4
                intro v5 w5 hv hg hb
                have INV' : Hid (RInv w w5 (w.heap.size + 1) w.heap.size N B bs (m + k) v5) := hid ⟨l2.drop d, ol ++ l2.take r, HS4.out.grown hg (HO.out.ne_low (by omega)) (HO.out.ne_low (by omega)), hv, by
                  rw [List.append_assoc, HTD.out, List.take_append_drop]; exact HTK.out, HON.out.of_grown hg (fun k hk => .inr (by have := (HO.out.lt k hk).1; omega)), Nat.le_trans hsz4 hg.size⟩
                clear hv hg hb R2 N2 HO HS4 HON
                go_wp2
                go_roundw
                case rel => exact ⟨j + 1, m + k, by omega, by omega, by go_num, by go_num, INV'⟩
                case measure => simp [intOf]; omega
            · obtain rfl : j = nC := by omega
              obtain ⟨l, ol, hs, ho, he, hon, hsz⟩ := INV.out
              have HS := hid hs; have HO := hid ho; have HE := hid he; have HON := hid hon
              clear hs ho he hon INV
              have hlN := HS.out.len_le
              have hol : ol.length + l.length ≤ m := by have := congrArg List.length HE.out; simp at this; omega
              go_wp2_with fail
              refine (peekSt wr (w.heap.size + 1) w.heap.size N l 0 N HS.out hN (by omega) (by omega) (by omega)).mono ?_
              rintro x w3 ⟨vp, rfl, hvp, o3⟩
              have HS3 := hid (HS.out.only o3)
              have HO := hid (HO.out.only_nil o3)
              have HON : Hid (Only [] w w3) := hid (HON.out.trans o3)
              have hsz3 : B ≤ w3.heap.size := Nat.le_trans hsz o3.size
              have HPK : Hid (peekL l 0 N = l) := hid (by unfold peekL; rw [if_neg (by omega)]; simp only [Int.toNat_zero, List.drop_zero, Int.toNat_natCast]; exact List.take_of_length_le hlN)
              rw [HPK.out] at hvp
              obtain ⟨A2, c2, ev2, hc2, hm2, r2, hb2⟩ := hvp.slice
              have N2 := hid (own_notNil hvp ev2)
              have R2 := hid r2
              subst ev2
              clear hvp o3 r2 hb2 HS
              go_wp2_with (at_builtin; refine wpList_app _ rfl (.tmp 82) (.tmp 85) _ rfl hlp.elemB B u9 ol rfl ?c1 A2 l.length c2 l rfl ?c2 ?c3 ?c4 ?c5 ?c6 ?_)
              case c1 => exact HO.out
              case c2 => exact R2.out
              case c3 => exact N2.out
              case c4 => omega
              case c5 => unfold maxLen; omega
              case c6 => exact hsz3
              intro v5 w5 hv hg hb
              have HON : Hid (Only [] w w5) := hid (HON.out.of_grown hg (fun k hk => .inr (by have := (HO.out.lt k hk).1; omega)))
              rw [HE.out] at hv
              obtain ⟨A3, c3, ev3, hc3, hm3, r3, hb3⟩ := hv.slice
              have HLT : Hid ((bs.take m).length = m) := hid (by rw [List.length_take, HRB.out.len]; omega)
              rw [HLT.out] at ev3 hc3 r3
              have R3 := hid r3
              have RB := hid ((HRB.out.only_nil HON.out).take m (by omega))
              subst ev3
              clear hv hg hb R2 N2 HO HS3 r3 hb3
              have hmc : (m : Int) ≤ c := by omega
              go_wp2_with fail
              refine (hlp.same _ _ _ m m _ _ (bs.take m) (bs.take m) R3.out RB.out (by omega) (by omega)).mono ?_
              rintro x w6 ⟨rfl, q, rfl⟩
              rw [show decide (bs.take m = bs.take m) = true from by simp]
              have HON := hid (HON.out.drewN q)
              clear R3 RB
              go_wp2_with fail
              refine (ev.known _).mono ?_
              rintro x w7 ⟨rfl, o7⟩
              have HON := hid (HON.out.trans o7)
              clear o7
              go_wp2
              go_ret
              exact ⟨rfl, HON.out⟩
end Go.Proofs.Ytbjmckmajpdglaa.rng
