/-
  Chapter 21 (name): the document's Pack, by a walk of its text. Conditions: none but those typed.
-/
import Derived.Test.YtfoecnlbiaiibaaNamJ
import Derived.Test.YtfoecnlbiaiibaaNamU
import Derived.Lib.AppendStr
namespace Go.Proofs.Ytfoecnlbiaiibaa.nam
set_option linter.unusedVariables false
set_option linter.unusedSimpArgs false
open Go.ChangeShapes Go.WideShapes Go.ChangeAt Go.RowKit Go.IntWalk Go.Lib
theorem cells_chs (s : ByteArray) : strCells s = (chs s).map (Value.int .u8) := by
  unfold chs strCells
  rw [List.map_map]
  rfl
theorem own_unlike2 {w : World} {e1 e2 : TypeId} (hne : e1 ≠ e2) {b1 b2 sz1 sz2 n1 n2 c b : Nat} {v2 : Value} {x1 x2 : List Value} (h1 : w.ownsRow b1 e1 sz1 (.slice (some ⟨b, 0, none⟩) n1 c) n1 x1) (h2 : w.ownsRow b2 e2 sz2 v2 n2 x2) : (Value.slice (some ⟨b, 0, none⟩) n1 c).ownBlock ≠ v2.ownBlock := fun e => own_unlike hne h1 h2 b rfl (e ▸ rfl)
/-- append of a string's bytes, in a region. -/
theorem opAppStr {P : Program} {e : TypeId} {w : World} {o : Oper} {a : Act} {K : Act → World → Prop} {Q : Exit → Act → World → Prop} (hgd : o.guard = none) (s x : Operand) (t u : TypeId)
    (ho : o.op = .call { callee := .builtin .append, args := #[s, x], argTypes := #[t, u] }) (E : Elem P t e .u8 1) (hu : P.underlying u = some .string) (base : Nat) (v : Value) (xs : List Int) (hs : a.eval s = v) (hown : Own .u8 e w base v xs)
    (str : ByteArray) (hx : a.eval x = .string str) (hb : xs.length + str.size ≤ 140737488355328) (hb2 : xs.length + str.size ≤ 140737488355328) (hbase : base ≤ w.heap.size)
    (h : ∀ v' w', Own .u8 e w' base v' (xs ++ chs str) → w.grownBy w' v.ownBlock → K (a.put o.dst v') w') : Oper.wp P o a w K Q := by
  obtain ⟨i, hi, hz, hsz, hby⟩ := info_parts E.info
  obtain ⟨v', w', hr, h2, h3, _⟩ := run_append_own_string (P := P) (w := w) base t u o.type e i E.ht hu hi hz hsz hby v xs.length _ hown.1 str (by unfold maxLen; omega) hb hbase
  unfold Oper.wp execOp
  simp only [ho, resolve, invoke, builtin, Sem.run_bind, Sem.run_pure, Result.andThen_ok, List.map_toArray, List.map_cons, List.map_nil, hs, hx, hr]
  refine h v' w' ⟨?_, fun y hy => ?_⟩ h3
  · rw [List.length_append, chs_len, List.map_append, ← cells_chs]
    exact h2
  · rcases List.mem_append.1 hy with h9 | h9
    · exact hown.2 y h9
    · exact (Lit.wf_int_iff .u8 y).2 (chs_bd str y h9)
theorem u8_in (x : Int) (h : 0 ≤ x ∧ x ≤ 255) : IntKind.u8.wrap x = x := by
  rw [IntKind.wrap_u8]; omega
set_option maxHeartbeats 4000000 in
set_option maxRecDepth 100000 in
theorem packD (w : World) (s : ByteArray) (hs : s.size ≤ maxLen) : Calls Try.prog 11 #[.string s] w fun x w' => ∃ v, x = .returned (.tuple #[v, .int .i64 (packs (chs s)).2]) ∧ Own .u8 5 w' w.heap.size v (packs (chs s)).1 ∧ Only [] w w' := by
  have hLS : (labsOf (chs s)).length ≤ s.size + 1 := by have := labs_size (chs s); rw [chs_len] at this; exact this
  have hbd : Hid (∀ m ∈ labsOf (chs s), ∀ x ∈ m, 0 ≤ x ∧ x ≤ 255) := hid (fun m hm x hx => chs_bd s x (labs_mem hm hx))
  have HP1 : Hid ((s.size ≤ 253 ∧ ∀ l ∈ labsOf (chs s), okL l) → packs (chs s) = (pk (labsOf (chs s)) ++ [0], 0)) := hid (fun h => packs_ok (by rw [chs_len]; omega) h.2)
  have HP2 : Hid (¬ (s.size ≤ 253 ∧ ∀ l ∈ labsOf (chs s), okL l) → packs (chs s) = ([], 9)) := hid (fun h => by
    unfold packs
    split
    · rfl
    · rename_i h9
      rw [chs_len] at h9
      rw [if_neg (fun e => h ⟨by omega, e⟩)])
  have HLD := hid (labelsD w s hs)
  obtain ⟨⟨P1, P2⟩, hP⟩ : ∃ P, packs (chs s) = P := ⟨_, rfl⟩
  rw [hP] at HP1 HP2 ⊢
  obtain ⟨ls, hls⟩ : ∃ ls, labsOf (chs s) = ls := ⟨_, rfl⟩
  rw [hls] at HP1 HP2 HLD hbd hLS
  clear hP hls
  by_cases ok : s.size ≤ 253 ∧ ∀ l ∈ ls, okL l
  · obtain ⟨rfl, rfl⟩ : P1 = pk ls ++ [0] ∧ P2 = 0 := by simpa using HP1.out ok
    have hd : decide (s.size ≤ 253 ∧ ∀ l ∈ ls, okL l) = true := decide_eq_true ok
    rw [hd] at HLD
    have HAll : Hid (∀ l ∈ ls, okL l) := hid ok.2
    have hn : ls.length ≤ 254 := by omega
    have HOk := hid ok
    have hpk := pk_len ls ok.2
    clear HP1 HP2 hd ok hLS hs
    obtain ⟨m, hm⟩ : ∃ m, ls.length = m := ⟨_, rfl⟩
    have HM := hid hm
    rw [hm] at HLD hn hpk
    clear hm
    go_enter Try.func11, Try.ntmps11
    go_wp2_with fail
    refine HLD.out.mono ?_
    rintro x w2 ⟨v, rfl, q2, hv⟩
    have hv := hv HOk.out
    have HV := hid hv
    have Q2 := hid q2
    obtain ⟨A, c, rfl, hnc, hcm, _, _, _, _⟩ := RdS.of_own HV.out (strs_one _)
    clear hv q2
    go_wp2_with fail
    go_loopw [6, 7] (fun v6 v7 wr => ∃ (k : Nat) (vb : Value), vb = v6 ∧ v7 = .int .i64 k ∧ k ≤ m ∧ Hid (Own .u8 5 wr w.heap.size vb (pk (ls.take k))) ∧ Hid (wr.ownsRow w.heap.size 9 1 (.slice A m c) m (strs ls)) ∧ Hid (Only [] w wr)) (fun _ v7 _ => m - (RowKit.intOf v7).toNat)
    case atStart => exact ⟨0, _, rfl, rfl, by omega, hid (Own.nil _ _ _ _), HV, Q2⟩
    case round =>
      obtain ⟨k, vb, rfl, rfl, hk, HO, HL, HB⟩ := hrel
      clear HV Q2
      by_cases hlt : k < m
      · have hltz : (k : Int) < (m : Int) := by omega
        obtain ⟨b, rfl, hb1, hb2, hcell⟩ := rd_strs HL.out (by omega) HM.out
        obtain ⟨q0, _⟩ := hcell k hlt
        clear hcell
        have HMem := hid (getD_mem ls k (by rw [HM.out]; exact hlt))
        have HTk := hid (take_next ls k (by rw [HM.out]; exact hlt))
        have hpl := pk_len (ls.take k) (fun l hl => HAll.out l (List.mem_of_mem_take hl))
        have htk : (ls.take k).length ≤ k := by rw [List.length_take]; omega
        obtain ⟨l, hl⟩ : ∃ l, ls.getD k [] = l := ⟨_, rfl⟩
        rw [hl] at q0 HMem HTk
        clear hl
        have HLb := hid (hbd.out l HMem.out)
        obtain ⟨z, hz⟩ : ∃ z, l.length = z := ⟨_, rfl⟩
        obtain ⟨t, ht⟩ : ∃ t, strOfNums l = t := ⟨_, rfl⟩
        have hts : t.size = z := by rw [← ht, strOf_size, hz]
        have HCt : Hid (chs t = l) := hid (by rw [← ht]; exact chs_nums l HLb.out)
        have HZ := hid hz
        rw [ht] at q0
        have okm : 1 ≤ z ∧ z ≤ 63 := by have ok := HAll.out l HMem.out; unfold okL at ok; rw [hz] at ok; exact ok
        have HWz : Hid ((Lit.int .u8 (z : Int)).wf = true) := hid ((Lit.wf_int_iff .u8 _).2 ⟨by show (0 : Int) ≤ z; omega, by show (z : Int) ≤ (255 : Int); omega⟩)
        clear hz ht
        go_wp2_with fail
        refine wp_region_noPanic ?_
        refine rgn.regionT (R := Same b) (by kernel_rfl) (Same.refl b) (Same.trans (g := b)) (fun _ _ _ _ _ h => h) (.y 0 (.y 1 (.y 2 (.y 3 (.y 4 (.y 5 (.y 6 (.y 9 (.y 10 (.y 11 (.y 12 (.e 7 (.e 8 (.e 13 (.e 14 .z))))))))))))))) (by kernel_rfl) (fun W hWd => ?_)
        have HWd := hid hWd; clear hWd
        have HQ0 : Hid (W.cell? ⟨b, k, none⟩ = some (.string t)) := hid (by rw [HWd.out]; exact q0)
        have o9 : Only [] wr W := by rw [HWd.out]; exact (Only.refl [] wr).drew
        have HO2 := hid (HO.out.only_nil o9)
        have HL2 := hid (own_only_nil HL.out o9)
        have HB2 := hid (HB.out.trans o9)
        have HSz : Hid (b < W.heap.size) := hid (HL2.out.lt b rfl).2
        clear HWd HO HL HB q0 o9
        refine rgn.Walk.ys (v := ?_) rfl rfl rfl ?_ ?_
        rotate_left 1
        · intro W' hW'
          go_simp
          try with_reducible rfl
        try simp only [Act.put, List.setIfInBounds_toArray, List.set_cons_zero, List.set_cons_succ]
        refine rgn.Walk.ys (v := ?_) rfl rfl rfl ?_ ?_
        rotate_left 1
        · intro W' hW'
          go_simp
          try with_reducible rfl
        try simp only [Act.put, List.setIfInBounds_toArray, List.set_cons_zero, List.set_cons_succ]
        refine rgn.Walk.ys (v := ?_) rfl rfl rfl ?_ ?_
        rotate_left 1
        · intro W' hW'
          go_simp
          try with_reducible rfl
        try simp only [Act.put, List.setIfInBounds_toArray, List.set_cons_zero, List.set_cons_succ]
        refine rgn.Walk.ys (v := ?_) rfl rfl rfl ?_ ?_
        rotate_left 1
        · intro W' hW'
          go_simp
          try with_reducible rfl
        try simp only [Act.put, List.setIfInBounds_toArray, List.set_cons_zero, List.set_cons_succ]
        refine rgn.Walk.ys (v := ?_) rfl rfl rfl ?_ ?_
        rotate_left 1
        · intro W' hW'
          have q0 := (World.cell?_of_block (w := W) (w' := W') (a := ⟨b, k, none⟩) hW').trans HQ0.out
          go_simp
          try with_reducible rfl
        try simp only [Act.put, List.setIfInBounds_toArray, List.set_cons_zero, List.set_cons_succ]
        refine rgn.Walk.ys (v := ?_) rfl rfl rfl ?_ ?_
        rotate_left 1
        · intro W' hW'
          go_simp
          try with_reducible rfl
        try simp only [Act.put, List.setIfInBounds_toArray, List.set_cons_zero, List.set_cons_succ]
        refine rgn.Walk.ys (v := ?_) rfl rfl rfl ?_ ?_
        rotate_left 1
        · intro W' hW'
          go_simp
          try rw [u8_in _ (by omega)]
          try with_reducible rfl
        try simp only [Act.put, List.setIfInBounds_toArray, List.set_cons_zero, List.set_cons_succ]
        refine rgn.Walk.ys (v := ?_) rfl rfl rfl ?_ ?_
        rotate_left 1
        · intro W' hW'
          go_simp
          try with_reducible rfl
        try simp only [Act.put, List.setIfInBounds_toArray, List.set_cons_zero, List.set_cons_succ]
        refine rgn.Walk.ys (v := ?_) rfl rfl rfl ?_ ?_
        rotate_left 1
        · intro W' hW'
          go_simp
          try with_reducible rfl
        try simp only [Act.put, List.setIfInBounds_toArray, List.set_cons_zero, List.set_cons_succ]
        refine rgn.Walk.ys (v := ?_) rfl rfl rfl ?_ ?_
        rotate_left 1
        · intro W' hW'
          go_simp
          try with_reducible rfl
        try simp only [Act.put, List.setIfInBounds_toArray, List.set_cons_zero, List.set_cons_succ]
        refine rgn.Walk.ys (v := ?_) rfl rfl rfl ?_ ?_
        rotate_left 1
        · intro W' hW'
          have q0 := (World.cell?_of_block (w := W) (w' := W') (a := ⟨b, k, none⟩) hW').trans HQ0.out
          go_simp
          try with_reducible rfl
        try simp only [Act.put, List.setIfInBounds_toArray, List.set_cons_zero, List.set_cons_succ]
        refine rgn.Walk.es ?_
        refine rgn.stepE rfl rfl (fun K hK => ?_)
        go_simp
        refine hK _ _ (Same.alloc _ (by have := HSz.out; omega)) ?_
        clear hK K
        have V4 : Hid (Own .u8 5 (W.alloc (.cells #[.int .u8 (z : Int)] 5)) w.heap.size vb (pk (ls.take k))) := hid (HO2.out.alloc _)
        have R4 : Hid (Rd .u8 (W.alloc (.cells #[.int .u8 (z : Int)] 5)) (some ⟨W.heap.size, 0, none⟩) 1 [(z : Int)]) := hid (rd_one W 5 (z : Int) HWz.out)
        have L4 : Hid ((W.alloc (.cells #[.int .u8 (z : Int)] 5)).ownsRow w.heap.size 9 1 (.slice (some ⟨b, 0, none⟩) m c) m (strs ls)) := hid (own_only_nil HL2.out ((Only.refl [] W).alloc _))
        have Q4 : Hid (Only [] w (W.alloc (.cells #[.int .u8 (z : Int)] 5))) := hid (HB2.out.alloc _)
        have S4 : Hid (b < (W.alloc (.cells #[.int .u8 (z : Int)] 5)).heap.size) := hid (by have := HSz.out; simp; omega)
        try simp only [Act.put, List.setIfInBounds_toArray, List.set_cons_zero, List.set_cons_succ]
        refine rgn.Walk.es ?_
        refine rgn.stepE rfl rfl (fun K hK => ?_)
        refine opApp rfl (.tmp 21) (.tmp 28) _ rfl wrt.elemB w.heap.size _ _ rfl V4.out (some ⟨W.heap.size, 0, none⟩) 1 1 [(z : Int)] rfl R4.out (by intro e; cases e) (by omega) (by unfold maxLen; omega) Q4.out.size ?_
        intro v5 w5 hv5 hg5 hb5
        refine hK _ _ (Same.grown hg5 S4.out (own_unlike (by decide) L4.out V4.out.1 b rfl)) ?_
        clear hK K
        have V5 := hid hv5
        have L5 : Hid (w5.ownsRow w.heap.size 9 1 (.slice (some ⟨b, 0, none⟩) m c) m (strs ls)) := hid (L4.out.kept hg5 (.inr (own_unlike2 (by decide) L4.out V4.out.1)))
        have Q5 : Hid (Only [] w w5) := hid (Q4.out.of_grown hg5 (fun i hi => .inr (V4.out.lt i hi).1))
        have S5 : Hid (b < w5.heap.size) := hid (L5.out.lt b rfl).2
        clear hv5 hg5 hb5 V4 R4 L4 Q4 S4
        try simp only [Act.put, List.setIfInBounds_toArray, List.set_cons_zero, List.set_cons_succ]
        refine rgn.Walk.es ?_
        refine rgn.stepE rfl rfl (fun K hK => ?_)
        refine opAppStr rfl (.tmp 29) (.tmp 33) _ _ rfl wrt.elemB Try.underlying9 w.heap.size _ _ rfl V5.out t rfl (by rw [List.length_append]; simp; omega) (by rw [List.length_append]; simp; omega) Q5.out.size ?_
        intro v6 w6 hv6 hg6
        refine hK _ _ (Same.grown hg6 S5.out (own_unlike (by decide) L5.out V5.out.1 b rfl)) ?_
        clear hK K
        have V6 : Hid (Own .u8 5 w6 w.heap.size v6 (pk (ls.take (k + 1)))) := hid (by
          rw [HTk.out, pk_app, pk_one, HZ.out, ← List.append_assoc, ← HCt.out]
          exact hv6)
        have L6 : Hid (w6.ownsRow w.heap.size 9 1 (.slice (some ⟨b, 0, none⟩) m c) m (strs ls)) := hid (L5.out.kept hg6 (.inr (own_unlike2 (by decide) L5.out V5.out.1)))
        have Q6 : Hid (Only [] w w6) := hid (Q5.out.of_grown hg6 (fun i hi => .inr (V5.out.lt i hi).1))
        clear hv6 hg6 V5 L5 Q5 S5
        try simp only [Act.put, List.setIfInBounds_toArray, List.set_cons_zero, List.set_cons_succ]
        refine rgn.Walk.es ?_
        refine rgn.stepE rfl rfl (fun K hK => ?_)
        go_simp
        refine hK _ _ ((Same.refl b) _) ?_
        clear hK K
        try simp only [Act.put, List.setIfInBounds_toArray, List.set_cons_zero, List.set_cons_succ]
        refine rgn.Walk.zs (NoPanic.normal ?_)
        go_wp2_with fail
        go_roundw
        case measure => exact meas_idx hlt
        case rel => exact ⟨k + 1, _, rfl, by first | rfl | go_num, by omega, V6, L6, Q6⟩
      · have hltz : ¬ (k : Int) < (m : Int) := by omega
        obtain rfl : k = m := by omega
        have hfull : ls.take k = ls := by rw [← HM.out]; exact List.take_length
        rw [hfull] at HO
        clear hfull
        have HOa : Hid (Own .u8 5 (wr.alloc (.cells #[.int .u8 0] 5)) w.heap.size vb (pk ls)) := hid (HO.out.alloc _)
        have HRa : Hid (Rd .u8 (wr.alloc (.cells #[.int .u8 0] 5)) (some ⟨wr.heap.size, 0, none⟩) 1 [0]) := hid (rd_one wr 5 0 (by decide))
        have HBa : Hid (Only [] w (wr.alloc (.cells #[.int .u8 0] 5))) := hid (HB.out.alloc _)
        go_wp2_with (at_builtin; refine wpList_app _ rfl (.tmp 35) (.tmp 36) _ rfl wrt.elemB w.heap.size _ (pk ls) rfl HOa.out (some ⟨wr.heap.size, 0, none⟩) 1 1 [0] rfl HRa.out (by intro e; cases e) (by omega) (by unfold maxLen; omega) HBa.out.size ?_)
        intro v4 w4 hv4 hg4 hb4
        have HB4 : Hid (Only [] w w4) := hid (HBa.out.of_grown hg4 (fun i hi => .inr (HOa.out.lt i hi).1))
        have HO4 := hid hv4
        clear hv4 hg4 hb4
        go_wp2_with fail
        go_ret2
        exact ⟨_, rfl, HO4.out, HB4.out⟩
  · obtain ⟨rfl, rfl⟩ : P1 = [] ∧ P2 = 9 := by simpa using HP2.out ok
    have hd : decide (s.size ≤ 253 ∧ ∀ l ∈ ls, okL l) = false := decide_eq_false ok
    rw [hd] at HLD
    clear HP1 HP2 hd ok hLS hs
    go_enter Try.func11, Try.ntmps11
    go_wp2_with fail
    refine HLD.out.mono ?_
    rintro x w2 ⟨v, rfl, q2, hv⟩
    have Q2 := hid q2
    clear hv q2
    go_wp2_with fail
    go_ret2
    exact ⟨_, rfl, Own.nil _ _ _ _, Q2.out⟩
end Go.Proofs.Ytfoecnlbiaiibaa.nam
