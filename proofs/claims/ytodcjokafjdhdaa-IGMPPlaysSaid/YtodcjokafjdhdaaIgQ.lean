/-
  Chapter 10 (igmp): of every script each answer, and the groups, by a walk of the law's text. Conditions: none but those typed.
-/
import Derived.Test.YtodcjokafjdhdaaIgP
import Derived.Test.YtodcjokafjdhdaaOplIg
namespace Go.Proofs.Ytodcjokafjdhdaa.igm
set_option linter.unusedVariables false
set_option linter.unusedSimpArgs false
open Go.ChangeShapes Go.WideShapes Go.ChangeAt Go.RowKit Go.IntWalk Go.Lib
theorem Pl.nil {w0 w w' : World} {g1 g2 : Nat} (h : Pl w0 w g1 g2) (o : Only [] w w') : Pl w0 w' g1 g2 := by
  obtain ⟨F, v, D, h⟩ := h
  exact ⟨F, v, D, h.nil o⟩
theorem Pl.put {w0 w : World} {g1 g2 gb : Nat} {cur : Array Value} (h : Pl w0 w g1 g2) (ho : Ob w gb 23 cur) (m : Nat) (u : Value) : Pl w0 (w.setCell ⟨gb, m, none⟩ u) g1 g2 := by
  obtain ⟨F, v, D, h⟩ := h
  have o := only_put w gb m u
  have h1 := h.hi.apart ho
  have h2 := h.di.apart ho
  exact ⟨F, v, D, h.hi.only o (fun k hk hm => h1 (by rw [← show k = gb from by simpa using hm]; exact hk)), h.di.only o (fun hm => h2 (by rw [show g2 = gb from by simpa using hm]; simp)) (fun j hj hm => h2 (by rw [← show j = gb from by simpa using hm]; simp [hj])), h.low2, h.sep⟩
set_option maxRecDepth 100000 in
set_option maxHeartbeats 16000000 in
theorem plays (w : World) (A : Option Addr) (len c : Nat) (V0 V1 V2 V3 V4 V5 V6 : Nat → Int) (h : OplIg w A len V0 V1 V2 V3 V4 V5 V6) : Calls Try.prog 5 #[.slice A len c] w (fun e w' => e = .returned (.bool true) ∧ Only [] w w') := by
  have HA := hid h; clear h
  obtain ⟨W1, hW1⟩ : ∃ W1, w.alloc (.cells #[.slice none 0 0] 46) = W1 := ⟨_, rfl⟩
  obtain ⟨W2, hW2⟩ : ∃ W2, W1.alloc (.cells #[.slice none 0 0] 50) = W2 := ⟨_, rfl⟩
  have q1 : Only [] w W1 := by rw [← hW1]; exact (Only.refl [] w).alloc _
  have q2 : Only [] W1 W2 := by rw [← hW2]; exact (Only.refl [] W1).alloc _
  have t1 : HI W2 w.heap.size w.heap.size [w.heap.size] [] := HI.nil (by rw [← hW1]; exact HI.new w _ (Nat.le_refl _)) q2
  have t2 : DI W2 w.heap.size W1.heap.size (.slice none 0 0) [] := ⟨by rw [← hW2]; exact Ob.new _ _ _, World.ownsRow_nil _ _ _ _⟩
  have hne : w.heap.size < W1.heap.size := by rw [← hW1]; simp
  have HI0 : Hid (Pl w W2 w.heap.size W1.heap.size) := hid ⟨_, _, [], t1, t2, by omega, fun k hk => ⟨by rw [List.mem_singleton.1 hk]; omega, by simp [Value.ownBlock]⟩⟩
  have Q0 := hid (q1.trans q2)
  clear q1 q2 t1 t2
  go_enter Try.func5, Try.ntmps5
  go_wp2_with fail
  clear hW1 hW2
  obtain ⟨g2, hg2⟩ : ∃ g2, W1.heap.size = g2 := ⟨_, rfl⟩
  rw [hg2] at HI0 ⊢
  clear hg2 hne
  go_loopw [5, 6, 7, 8] (fun tn i _ _ wr => ∃ (k : Nat) (z : Int), k ≤ min len 200 ∧ i = .int .i64 k ∧ tn = .int .i64 z ∧ Hid (0 ≤ z ∧ z ≤ k * 1073741824) ∧ Hid (Pl w wr w.heap.size g2) ∧ Hid (Only [] w wr)) (fun _ i _ _ _ => 200 - (RowKit.intOf i).toNat)
  case atStart => exact ⟨0, 0, by omega, rfl, rfl, hid (by omega), HI0, Q0⟩
  case round =>
    clear HI0 Q0
    obtain ⟨k, z, hk, rfl, rfl, HZ, HT9, Q⟩ := hrel
    by_cases hlt : k < len
    · by_cases h2 : k < 200
      · obtain ⟨F, v, D, ht⟩ := HT9.out
        have H := hid ht; clear ht
        obtain ⟨b, off, rfl, hb, hc⟩ := (HA.out.only_nil Q.out).cells (by omega)
        obtain ⟨q0, q1, q2, q3, q4, q5, q6⟩ := hc k hlt
        have hwf := HA.out.rd k hlt
        have HN5 := hid (i64Bd hwf.2.2.2.2.2.1); have HN6 := hid (i64Bd hwf.2.2.2.2.2.2)
        clear hc hwf
        generalize V0 k = x0 at *; generalize V1 k = x1 at *; generalize V2 k = x2 at *; generalize V3 k = x3 at *; generalize V4 k = x4 at *; generalize V5 k = x5 at *; generalize V6 k = x6 at *
        obtain ⟨y, hy⟩ : ∃ y, (if x6 < 1073741824 then x6 else 1073741824) = y := ⟨_, rfl⟩
        have hy2 : (if 1073741824 < x6 then 1073741824 else x6) = y := by rw [← hy]; split <;> split <;> omega
        obtain ⟨d, hd⟩ : ∃ d, (if 0 < y then y else 0) = d := ⟨_, rfl⟩
        have hyb : y ≤ 1073741824 := by rw [← hy]; split <;> omega
        have hdb : 0 ≤ d ∧ d ≤ 1073741824 := by rw [← hd]; split <;> omega
        have HZ2 : Hid (0 ≤ z + d ∧ z + d ≤ (k + 1 : Nat) * 1073741824) := hid (by have := HZ.out; omega)
        have s1 : IntKind.i64.wrap (z + d) = z + d := i64_in _ (by have := HZ2.out; omega)
        go_wp2_with fail
        clear hy hy2 hd s1
        refine (groupsH wr w.heap.size w.heap.size F _ H.out.hi).mono ?_
        rintro x w3 ⟨vg, rfl, hvg, o3⟩
        obtain ⟨A3, c3, e3, hnc3, -, -, -, -, hA3⟩ := RdS.of_own hvg (rws_one adr_one _)
        subst e3
        have HN3 := hid hnc3; have HA3 := hid hA3; have HVG := hid hvg
        replace q0 := o3.keep q0; replace q1 := o3.keep q1; replace q2 := o3.keep q2; replace q3 := o3.keep q3; replace q4 := o3.keep q4; replace q5 := o3.keep q5; replace q6 := o3.keep q6
        have H3 := hid (H.out.nil o3); have Q3 := hid (Q.out.trans o3); have HSZ := hid Q.out.size
        have HLL : Hid (((D.map Dm.ab).map (·.g)).length ≤ 16) := hid (by rw [List.length_map]; exact H.out.hi.len)
        obtain ⟨n3, hn3⟩ : ∃ n3, ((D.map Dm.ab).map (·.g)).length = n3 := ⟨_, rfl⟩
        rw [hn3] at HLL HN3 HVG ⊢
        clear hnc3 hA3 hvg o3 hn3
        go_wp2_with fail
        refine (does1 w w3 w.heap.size g2 F v D x0 x1 x2 x3 x4 x5 x6 (z + d) H3.out Q3.out (by have := HZ2.out; omega) HN5.out.2).mono ?_
        rintro x w4 ⟨rfl, hp4, q4', k4⟩
        have P4 := hid hp4; have Q4 := hid q4'
        have HB4 : Hid (∀ gb, A3 = some ⟨gb, 0, none⟩ → ∃ cur, Ob w4 gb 23 cur ∧ n3 ≤ cur.size ∧ w.heap.size ≤ gb) := hid (fun gb e => by
          subst e
          rcases HVG.out.2 with ⟨e9, _⟩ | ⟨p, cap, cur, e9, hp, hh, hn9, _, hs, _⟩
          · cases e9
          · injection e9 with e1 e2 e3; injection e1 with e1; injection e1 with e1; subst e1
            exact ⟨cur, k4 _ _ hh, by omega, by have := HSZ.out; omega⟩)
        clear hp4 q4' k4 q0 q1 q2 q3 q4 q5 q6
        go_wp2_with fail
        go_loopw [8] (fun i wq => ∃ m : Nat, m ≤ n3 ∧ i = .int .i64 m ∧ Hid (Pl w wq w.heap.size g2) ∧ Hid (Only [] w wq) ∧ Hid (∀ gb, A3 = some ⟨gb, 0, none⟩ → ∃ cur, Ob wq gb 23 cur ∧ n3 ≤ cur.size ∧ w.heap.size ≤ gb)) (fun i _ => n3 - (RowKit.intOf i).toNat)
        case atStart => exact ⟨0, by omega, rfl, P4, Q4, HB4⟩
        case round =>
          obtain ⟨m, hm, rfl, PQ, OQ, HB⟩ := hrel
          by_cases hmn : m < n3
          · have hm64 : m < 64 := by have := HLL.out; omega
            obtain ⟨gb, hgb⟩ : ∃ gb, A3 = some ⟨gb, 0, none⟩ := by
              rcases HA3.out with h9 | h9
              · exfalso; rw [h9] at HVG; rcases HVG.out.2 with ⟨_, e8⟩ | ⟨_, _, _, e9, _⟩; omega; cases e9
              · exact h9
            subst hgb
            obtain ⟨cur, ho, hsz, hlo⟩ := HB.out gb rfl
            have e0 := ho.cell m
            rw [Array.getElem?_eq_getElem (by omega)] at e0
            have f0 := ho.frozen m
            obtain ⟨u, hu⟩ : ∃ u, cur[m]'(by omega) = u := ⟨_, rfl⟩
            rw [hu] at e0
            have P5 := hid (PQ.out.put ho m (.int .u32 0))
            have Q5 : Hid (Only [] w (wr.setCell ⟨gb, m, none⟩ (.int .u32 0))) := hid (OQ.out.setCell (p := ⟨gb, m, none⟩) (Or.inr hlo) _)
            have HB5 : Hid (∀ gb2, some (⟨gb, 0, none⟩ : Addr) = some ⟨gb2, 0, none⟩ → ∃ cur, Ob (wr.setCell ⟨gb, m, none⟩ (.int .u32 0)) gb2 23 cur ∧ n3 ≤ cur.size ∧ w.heap.size ≤ gb2) := hid (fun gb2 e => by
              injection e with e; injection e with e; subst e
              exact ⟨_, ho.set m _, by simpa using hsz, hlo⟩)
            clear ho hu hsz
            go_wp2_with fail
            go_roundw
            case rel => exact ⟨m + 1, by omega, by first | rfl | go_num, P5, Q5, HB5⟩
            case measure => simp [RowKit.intOf]; omega
          · go_wp2_with fail
            obtain ⟨F6, v6, D6, h6⟩ := PQ.out
            have H6 := hid h6; clear h6
            refine (groupsH wr w.heap.size w.heap.size F6 _ H6.out.hi).mono ?_
            rintro x w7 ⟨v7, rfl, hv7, o7⟩
            obtain ⟨A7, c7, e7, -, -, -, r7, -, -⟩ := RdS.of_own hv7 (rws_one adr_one _)
            subst e7
            have R7 := hid r7; have H7 := hid (H6.out.nil o7); have Q7 := hid (OQ.out.trans o7)
            have HL6 : Hid (D6.length ≤ 16) := hid (by have := H7.out.hi.len; rwa [List.length_map] at this)
            have HMM : Hid ((D6.map Dm.ab).map (·.g) = D6.map (·.g)) := hid (by rw [List.map_map]; rfl)
            rw [HMM.out, List.length_map] at R7
            rw [HMM.out, List.length_map]
            clear r7 hv7 o7
            have hl6 := HL6.out
            go_wp2_with fail
            refine (groupsD w7 w.heap.size g2 v6 D6 H7.out.di HL6.out).mono ?_
            rintro x w8 ⟨v8, rfl, hv8, o8⟩
            obtain ⟨A8, c8, e8, -, -, -, r8, -, -⟩ := RdS.of_own hv8 (rws_one adr_one _)
            subst e8
            rw [List.length_map] at r8 ⊢
            have R8 := hid r8; have R7b := hid (R7.out.only_nil o8); have H8 := hid (H7.out.nil o8); have Q8 := hid (Q7.out.trans o8)
            clear r8 hv8 o8
            go_wp2_with fail
            refine (addrs1 w8 A7 A8 _ c7 c8 _ R7b.out R8.out (by rw [List.length_map]) (by omega)).mono ?_
            rintro x w9 ⟨rfl, o9⟩
            have H9 := hid (H8.out.nil o9); have Q9 := hid (Q8.out.trans o9)
            clear o9
            go_wp2_with fail
            refine (groupsD w9 w.heap.size g2 v6 D6 H9.out.di HL6.out).mono ?_
            rintro x w10 ⟨v10, rfl, hv10, o10⟩
            obtain ⟨A10, c10, e10, -, -, -, -, -, -⟩ := RdS.of_own hv10 (rws_one adr_one _)
            subst e10
            rw [List.length_map]
            have P10 : Hid (Pl w w10 w.heap.size g2) := hid ⟨_, _, _, H9.out.nil o10⟩
            have Q10 := hid (Q9.out.trans o10)
            clear hv10 o10
            go_wp2_with fail
            go_roundw
            case rel => exact ⟨k + 1, z + d, by omega, by first | rfl | go_num, rfl, HZ2, P10, Q10⟩
            case measure => simp [RowKit.intOf]; omega
      · go_wp2_with fail
        refine (known1 wr).mono ?_
        rintro x w9 ⟨rfl, o9⟩
        have Q9 := hid (Q.out.trans o9)
        clear o9
        go_wp2_with fail
        go_ret
        exact ⟨rfl, Q9.out⟩
    · go_wp2_with fail
      refine (known1 wr).mono ?_
      rintro x w9 ⟨rfl, o9⟩
      have Q9 := hid (Q.out.trans o9)
      clear o9
      go_wp2_with fail
      go_ret
      exact ⟨rfl, Q9.out⟩
end Go.Proofs.Ytodcjokafjdhdaa.igm
