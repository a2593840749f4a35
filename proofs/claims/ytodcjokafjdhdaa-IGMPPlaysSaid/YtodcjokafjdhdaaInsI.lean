/-
  slices.Insert of one element into a row of structs of the call's own, by a walk of its text (igmp). Conditions: none but those typed.
-/
import Derived.Test.YtodcjokafjdhdaaBsfI
import Derived.Lib.Overlaps
namespace Go.Proofs.Ytodcjokafjdhdaa.igm
set_option linter.unusedVariables false
set_option linter.unusedSimpArgs false
open Go.ChangeShapes Go.WideShapes Go.ChangeAt Go.RowKit Go.IntWalk Go.Lib
theorem slA (g o n c i : Nat) (hi : i < c) (hin : i ≤ n) (hnc : n ≤ c) (hc : c ≤ 9223372036854775807) (W : World) : (Instr.slice 44 (.slice (some ⟨g, 0, none⟩) n c) (some (.int .i64 (i : Int))) none none).run Try.prog W = .ok (.slice (some ⟨g, i * 3, none⟩) (n - i) (c - i)) W := by
  have y1 : (i : Int) ≤ (n : Int) := by omega
  have y2 : (n : Int) ≤ (c : Int) := by omega
  have y3 : ¬ (c : Int) = (i : Int) := by omega
  have y4 : ¬ c = i := by omega
  go_simp
theorem slB (g n c i : Nat) (hin : i ≤ c) (hc : c ≤ 9223372036854775807) (W : World) : (Instr.slice 44 (.slice (some ⟨g, 0, none⟩) n c) none (some (.int .i64 (i : Int))) none).run Try.prog W = .ok (.slice (some ⟨g, 0, none⟩) i c) W := by
  have y1 : (i : Int) ≤ (c : Int) := by omega
  go_simp
theorem shapeOb {w : World} {g : Nat} {t : TypeId} {cs : Array Value} (h : Ob w g t cs) : w.shape? g = some (t, cs.size) := by
  unfold World.shape?
  rw [show w.heap[g]? = some (.cells cs t (0, 0)) from h]
theorem ovl (w : World) (vb g o lb cb : Nat) (hne : vb ≠ g) (c1 c2 : Array Value) (h1 : Ob w vb 77 c1) (h2 : Ob w g 77 c2) (hz : c2.size ≠ 0) : (callFunc 60 #[.slice (some ⟨vb, 0, none⟩) 1 1, .slice (some ⟨g, o, none⟩) lb cb]).run Try.prog w = .ok (.value (.bool false)) w := by
  rw [run_callFunc_extern Try.func60 (by kernel_rfl) (by kernel_rfl) (by kernel_rfl) (e := Extern.SlicesOverlaps.overlaps #[44, 44] #[4]) (by kernel_rfl),
    Lib.run_overlaps_apart w 44 4 77 Try.underlying44 3 (fun _ => by kernel_rfl) ⟨vb, 0, none⟩ ⟨g, o, none⟩ 1 1 lb cb hne 77 77 c1.size c2.size (shapeOb h1) (shapeOb h2) hz (h1.frozen _) (h1.frozen _)]
  rfl
/-- A builtin whose run is known, as one step of a region. -/
theorem opRun {P : Program} {o : Oper} {a : Act} {w : World} {K : Act → World → Prop} {Q : Exit → Act → World → Prop} (hg : o.guard = none) (d x : Operand) (dT sT : TypeId) (hop : o.op = Op.call { callee := Callee.builtin Builtin.copy, args := #[d, x], argTypes := #[dT, sT] })
    (v u : Value) (hd : a.eval d = v) (hx : a.eval x = u) {v' : Value} {w' : World} (hr : (Builtin.copy_ #[dT, sT] o.type #[v, u]).run P w = .ok v' w') (hK : K (a.put o.dst v') w') : Oper.wp P o a w K Q := by
  unfold Oper.wp
  simp [execOp, hop, resolve, invoke, builtin, hd, hx, hr, Result.andThen]
  exact hK
theorem wpListRun {P : Program} {ops : Array Oper} {rest : List Oper} {o : Oper} {a : Act} {w : World} {Q : Exit → Act → World → Prop} (hgd : o.guard = none) (d x : Operand) (dT sT : TypeId) (hop : o.op = Op.call { callee := Callee.builtin Builtin.copy, args := #[d, x], argTypes := #[dT, sT] })
    (v u : Value) (hd : a.eval d = v) (hx : a.eval x = u) {v' : Value} {w' : World} (hr : (Builtin.copy_ #[dT, sT] o.type #[v, u]).run P w = .ok v' w') (h : wpList P ops Q rest (a.put o.dst v') w') : wpList P ops Q (o :: rest) a w :=
  wpList_plain hgd fun _ hK => opRun (Q := Q) hgd d x dT sT hop v u hd hx hr (hK _ _ h)
/-- The list with one more. -/
def insL {α : Type} (L : List α) (i : Nat) (x : α) : List α := L.take i ++ x :: L.drop i
theorem insL_len {α : Type} (L : List α) (i : Nat) (x : α) : (insL L i x).length = L.length + 1 := by
  unfold insL; rw [List.length_append, List.length_cons, List.length_take, List.length_drop]; omega
theorem rws_ins (L : List Mb) (i : Nat) (x : Mb) : rws Mb.enc (insL L i x) = rws Mb.enc (L.take i) ++ (Mb.enc x ++ rws Mb.enc (L.drop i)) := by
  unfold insL; rw [rws_app]; rfl
def InsE (L : List Mb) (i : Nat) (x : Mb) (base : Nat) (v : Value) (w : World) (e : Ending) (w' : World) : Prop := ∃ v', e = .returned v' ∧ w'.ownsRow base 77 3 v' (L.length + 1) (rws Mb.enc (insL L i x)) ∧ w.grownBy w' v.ownBlock ∧ (v'.ownBlock = v.ownBlock ∨ ∀ j, v'.ownBlock = some j → w.heap.size ≤ j)
theorem insEnd (w : World) (base : Nat) (v : Value) (L : List Mb) (n vb : Nat) (x : Mb) (hown : w.ownsRow base 77 3 v n (rws Mb.enc L)) (hn : L.length = n) (hx : Ob w vb 77 (Mb.enc x).toArray) (hb : base ≤ w.heap.size) (hbd : n ≤ 100000) :
    Calls Try.prog 41 #[v, .int .i64 (n : Int), .slice (some ⟨vb, 0, none⟩) 1 1] w (InsE L n x base v w) := by
  obtain ⟨A, c, ev, hnc, hcm, hA0, hrd, hblk, hform⟩ := RdS.of_own hown (rws_one enc_one _)
  have HO := hid hown; have HN := hid hn
  have HX : Hid (RdS w (some ⟨vb, 0, none⟩) 1 3 (Mb.enc x)) := hid ⟨by rw [enc_len], enc_one x, fun _ => ⟨vb, 0, rfl, hx.lt, fun j u hj => by rw [Nat.zero_add, hx.cell]; simpa using hj⟩⟩
  have hcc : c ≤ 9223372036854775807 := by unfold maxLen at hcm; exact hcm
  have y1 : (n : Int) ≤ (c : Int) := by omega
  clear hown hn hrd hblk hA0 hx hcm
  subst ev
  have hob : ∀ q, (Value.slice A n q).ownBlock = (Value.slice A n c).ownBlock := fun q => by cases A <;> rfl
  have HOb := hid hob; clear hob
  go_enter Try.func41, Try.ntmps41
  go_wp2_with (at_builtin; refine wpList_appS _ rfl (.tmp 23) (.tmp 24) _ rfl elemS base _ n (rws Mb.enc L) rfl HO.out (some ⟨vb, 0, none⟩) 1 1 (Mb.enc x) rfl HX.out (by intro e; cases e) (.inr ⟨_, _, rfl⟩) (by omega) (by unfold maxLen; omega) hb ?_)
  all_goals (
    intro v' w' hv hg hbk
    have HV := hid hv; have HG := hid hg; have HBK := hid hbk
    clear hv hg hbk
    go_wp2_with fail
    go_ret
    refine ⟨v', rfl, ?_, (HOb.out _) ▸ HG.out, ?_⟩
    · rw [rws_ins, ← HN.out, List.take_length, List.drop_length]
      have h9 := HV.out
      rw [← HN.out] at h9
      simpa [rws] using h9
    · rcases HBK.out with h | h
      · exact .inl (h.trans (HOb.out _))
      · exact .inr (fun j hj => by rw [h] at hj; have : w.heap.size = j := by simpa using hj
                                   omega))
set_option maxRecDepth 100000 in
set_option maxHeartbeats 4000000 in
theorem insRoom (w : World) (base g n cap i vb : Nat) (L : List Mb) (x : Mb) (hown : w.ownsRow base 77 3 (.slice (some ⟨g, 0, none⟩) n cap) n (rws Mb.enc L)) (hn : L.length = n) (hx : Ob w vb 77 (Mb.enc x).toArray) (hne : vb ≠ g) (hbg : base ≤ g) (hi : i < n) (hroom : n + 1 ≤ cap) (hcm : cap ≤ maxLen) (hbd : n ≤ 100000) :
    Calls Try.prog 41 #[.slice (some ⟨g, 0, none⟩) n cap, .int .i64 (i : Int), .slice (some ⟨vb, 0, none⟩) 1 1] w (InsE L i x base (.slice (some ⟨g, 0, none⟩) n cap) w) := by
  obtain ⟨hcl, hcase⟩ := hown
  obtain ⟨cur, hh, hcs, htk⟩ : ∃ cur : Array Value, Ob w g 77 cur ∧ cur.size = cap * 3 ∧ cur.toList.take (n * 3) = rws Mb.enc L := by
    rcases hcase with ⟨h, _⟩ | ⟨g', cap', cur, hv, hbg, hh, hnc, hcm, hcs, htk⟩
    · cases h
    · injection hv with e1 _ e3
      injection e1 with e1; injection e1 with e1
      subst e1 e3
      exact ⟨cur, hh, hcs, htk⟩
  clear hcase
  have hcc : cap ≤ 9223372036854775807 := by unfold maxLen at hcm; exact hcm
  have hen : (rws Mb.enc L).length = n * 3 := hcl
  have hdl : (rws Mb.enc (L.drop i)).length = (n - i) * 3 := by rw [rws_len enc_len, List.length_drop, hn]
  have hdrop : ∀ j u, (rws Mb.enc (L.drop i))[j]? = some u → w.cell? ⟨g, i * 3 + j, none⟩ = some u := fun j u hj => by
    have e : rws Mb.enc (L.drop i) = (cur.toList.take (n * 3)).drop (i * 3) := by rw [htk, rws_drop enc_len _ _ (by omega)]
    rw [e, List.getElem?_drop, List.getElem?_take] at hj
    split at hj
    · rw [hh.cell]; simpa using hj
    · cases hj
  obtain ⟨c1, hc1⟩ : ∃ c1 : Array Value, (cur.toList.take ((i + 1) * 3) ++ rws Mb.enc (L.drop i) ++ cur.toList.drop ((i + 1) * 3 + (rws Mb.enc (L.drop i)).length)).toArray = c1 := ⟨_, rfl⟩
  have hfit1 : (i + 1) * 3 + (rws Mb.enc (L.drop i)).length ≤ cur.size := by rw [hdl, hcs, ← Nat.add_mul]; exact Nat.mul_le_mul_right _ (by omega)
  have hc1s : c1.size = cap * 3 := by
    rw [← hc1]
    simp only [List.size_toArray, List.length_append, List.length_take, List.length_drop, Array.length_toList]
    omega
  have hcp1 : Hid (∀ W, Only [] w W → ∀ ty dc sc, (Builtin.copy_ #[44, 44] ty #[.slice (some ⟨g, (i + 1) * 3, none⟩) (n + 1 - (i + 1)) dc, .slice (some ⟨g, i * 3, none⟩) (n + 1 - i) sc]).run Try.prog W = .ok (goInt ((min (n + 1 - i) (n + 1 - (i + 1)) : Nat) : Int)) (W.setRow g c1)) := hid (fun W hW ty dc sc => by
    have h9 := run_copyS (P := Try.prog) W elemS 44 ty g ((i + 1) * 3) (n + 1 - (i + 1)) dc g (i * 3) (n + 1 - i) sc cur 77 (hh.only hW (by simp)) (rws Mb.enc (L.drop i)) (by rw [hdl]; congr 1; omega) (fun j u hj => hW.keep (hdrop j u hj)) (rws_one enc_one _) hfit1
    rw [hc1] at h9
    exact h9)
  obtain ⟨c2, hc2⟩ : ∃ c2 : Array Value, (c1.toList.take (i * 3) ++ Mb.enc x ++ c1.toList.drop (i * 3 + (Mb.enc x).length)).toArray = c2 := ⟨_, rfl⟩
  have hfit2 : i * 3 + (Mb.enc x).length ≤ c1.size := by rw [enc_len, hc1s]; have := Nat.mul_le_mul_right 3 (show i + 1 ≤ cap by omega); omega
  have hcp2 : Hid (∀ W, Ob W g 77 c1 → Ob W vb 77 (Mb.enc x).toArray → ∀ ty dc, (Builtin.copy_ #[44, 44] ty #[.slice (some ⟨g, i * 3, none⟩) (n + 1 - i) dc, .slice (some ⟨vb, 0, none⟩) 1 1]).run Try.prog W = .ok (goInt ((min 1 (n + 1 - i) : Nat) : Int)) (W.setRow g c2)) := hid (fun W hW hV ty dc => by
    have h9 := run_copyS (P := Try.prog) W elemS 44 ty g (i * 3) (n + 1 - i) dc vb 0 1 1 c1 77 hW (Mb.enc x) (by rw [enc_len, Nat.min_eq_left (by omega)]) (fun j u hj => by rw [Nat.zero_add, hV.cell]; simpa using hj) (enc_one x) hfit2
    rw [hc2] at h9
    exact h9)
  have hfin : Hid (c2.size = cap * 3 ∧ c2.toList.take ((n + 1) * 3) = rws Mb.enc (insL L i x)) := hid (by
    have hti : (cur.toList.take (i * 3)) = rws Mb.enc (L.take i) := by
      rw [← rws_take enc_len L i (by omega), ← htk, List.take_take, Nat.min_eq_left (Nat.mul_le_mul_right _ (by omega))]
    have hl0 : (cur.toList.take ((i + 1) * 3)).length = (i + 1) * 3 := by rw [List.length_take, Array.length_toList, hcs]; exact Nat.min_eq_left (Nat.mul_le_mul_right _ (by omega))
    have e1 : c1.toList.take (i * 3) = rws Mb.enc (L.take i) := by
      rw [← hc1]
      show List.take (i * 3) (cur.toList.take ((i + 1) * 3) ++ _ ++ _) = _
      rw [List.append_assoc, List.take_append_of_le_length (by rw [hl0]; omega), List.take_take, Nat.min_eq_left (by omega), hti]
    have e2 : c1.toList.drop (i * 3 + 3) = rws Mb.enc (L.drop i) ++ cur.toList.drop ((i + 1) * 3 + (rws Mb.enc (L.drop i)).length) := by
      rw [← hc1]
      show List.drop (i * 3 + 3) (cur.toList.take ((i + 1) * 3) ++ _ ++ _) = _
      rw [List.append_assoc, show i * 3 + 3 = (cur.toList.take ((i + 1) * 3)).length from by rw [hl0]; omega, List.drop_left]
    refine ⟨?_, ?_⟩
    · rw [← hc2]
      simp only [List.size_toArray, List.length_append, List.length_take, List.length_drop, Array.length_toList]
      omega
    · rw [← hc2]
      show List.take ((n + 1) * 3) (c1.toList.take (i * 3) ++ Mb.enc x ++ c1.toList.drop (i * 3 + (Mb.enc x).length)) = _
      rw [enc_len, e1, e2, rws_ins]
      rw [show rws Mb.enc (L.take i) ++ Mb.enc x ++ (rws Mb.enc (L.drop i) ++ cur.toList.drop ((i + 1) * 3 + (rws Mb.enc (L.drop i)).length)) = (rws Mb.enc (L.take i) ++ (Mb.enc x ++ rws Mb.enc (L.drop i))) ++ cur.toList.drop ((i + 1) * 3 + (rws Mb.enc (L.drop i)).length) from by simp only [List.append_assoc]]
      have hlen : (rws Mb.enc (L.take i) ++ (Mb.enc x ++ rws Mb.enc (L.drop i))).length = (n + 1) * 3 := by
        rw [List.length_append, List.length_append, rws_len enc_len, rws_len enc_len, enc_len, List.length_take, List.length_drop, hn, Nat.min_eq_left (by omega)]
        omega
      rw [← hlen, List.take_left])
  have HH := hid hh; have HX := hid hx
  have hov : ∀ lb cb, (callFunc 60 #[.slice (some ⟨vb, 0, none⟩) 1 1, .slice (some ⟨g, (i + 1) * 3, none⟩) lb cb]).run Try.prog w = .ok (.value (.bool false)) w := fun lb cb => ovl w vb g _ lb cb hne _ cur hx hh (by rw [hcs]; omega)
  have hsB := slB g n cap (n + 1) hroom hcc
  have hsA := slA g 0 (n + 1) cap i (by omega) (by omega) hroom hcc
  have hsC := slA g 0 (n + 1) cap (i + 1) (by omega) (by omega) hroom hcc
  have hsD := slA g 0 n cap i (by omega) (by omega) (by omega) hcc
  simp only [Int.natCast_add, Int.natCast_one] at hsB hsC
  have hw1 : IntKind.i64.wrap ((i : Int) + 1) = (i : Int) + 1 := i64_in _ (by omega)
  have y1 : ¬ (i : Int) = (n : Int) := by omega
  have y2 : ¬ (cap : Int) < (n : Int) + 1 := by omega
  have HN := hid hn
  clear hcl hcs htk hen hdl hdrop hc1 hfit1 hc1s hc2 hfit2 hh hx hn
  go_enter Try.func41, Try.ntmps41
  go_wp2_with (simp only [hov])
  refine wp_region_noPanic ?_
  refine rgn.regionT (R := AnyW) (by kernel_rfl) (fun _ => AnyW.any _ _) (fun _ _ _ _ _ => AnyW.any _ _) (fun _ _ _ _ _ h => h) (.y 0 (.y 1 (.y 2 (.y 3 (.y 4 (.y 5 (.y 6 (.y 7 (.e 8 .z))))))))) (by kernel_rfl) (fun W hWd => ?_)
  have HWd := hid hWd; clear hWd
  have QD : Hid (Only [] w W) := hid (Only.eq_drew (Only.refl [] _) HWd.out)
  clear HWd
  refine rgn.Walk.ys (v := ?_) rfl rfl rfl ?_ ?_
  rotate_left 1
  · intro W' hW'
    go_simp
    try with_reducible rfl
  try simp only [Act.put, List.setIfInBounds_toArray, List.set_cons_zero, List.set_cons_succ]
  refine rgn.Walk.ys (v := ?_) rfl rfl rfl ?_ ?_
  rotate_left 1
  · intro W' hW'
    go_simp
    try with_reducible rfl
  try simp only [Act.put, List.setIfInBounds_toArray, List.set_cons_zero, List.set_cons_succ]
  refine rgn.Walk.ys (v := ?_) rfl rfl rfl ?_ ?_
  rotate_left 1
  · intro W' hW'
    go_simp
    try with_reducible rfl
  try simp only [Act.put, List.setIfInBounds_toArray, List.set_cons_zero, List.set_cons_succ]
  refine rgn.Walk.ys (v := ?_) rfl rfl rfl ?_ ?_
  rotate_left 1
  · intro W' hW'
    go_simp
    try with_reducible rfl
  try simp only [Act.put, List.setIfInBounds_toArray, List.set_cons_zero, List.set_cons_succ]
  refine rgn.Walk.ys (v := ?_) rfl rfl rfl ?_ ?_
  rotate_left 1
  · intro W' hW'
    try rw [hw1]
    have gs := hsC W'
    go_simp
    try with_reducible rfl
  try simp only [Act.put, List.setIfInBounds_toArray, List.set_cons_zero, List.set_cons_succ]
  refine rgn.Walk.ys (v := ?_) rfl rfl rfl ?_ ?_
  rotate_left 1
  · intro W' hW'
    go_simp
    try with_reducible rfl
  try simp only [Act.put, List.setIfInBounds_toArray, List.set_cons_zero, List.set_cons_succ]
  refine rgn.Walk.ys (v := ?_) rfl rfl rfl ?_ ?_
  rotate_left 1
  · intro W' hW'
    go_simp
    try with_reducible rfl
  try simp only [Act.put, List.setIfInBounds_toArray, List.set_cons_zero, List.set_cons_succ]
  refine rgn.Walk.ys (v := ?_) rfl rfl rfl ?_ ?_
  rotate_left 1
  · intro W' hW'
    have gs := hsA W'
    go_simp
    try with_reducible rfl
  try simp only [Act.put, List.setIfInBounds_toArray, List.set_cons_zero, List.set_cons_succ]
  refine rgn.Walk.es ?_
  refine rgn.stepE rfl rfl (fun K hK => ?_)
  refine opRun rfl (.tmp 73) (.tmp 76) _ _ rfl _ _ (by go_simp) (by go_simp) (hcp1.out W QD.out _ (cap - (i + 1)) (cap - i)) ?_
  refine hK _ _ (AnyW.any _ _) ?_
  clear hK K
  try simp only [Act.put, List.setIfInBounds_toArray, List.set_cons_zero, List.set_cons_succ]
  refine rgn.Walk.zs (NoPanic.normal ?_)
  obtain ⟨W1, hW1⟩ : ∃ W1, W.setRow g c1 = W1 := ⟨_, rfl⟩
  have O1 : Hid (Ob W1 g 77 c1) := hid (by rw [← hW1]; exact setRow_heap W g _ _ 77 _ (HH.out.only QD.out (by simp)))
  have X1 : Hid (Ob W1 vb 77 (Mb.enc x).toArray) := hid (by rw [← hW1]; exact (setRow_other W g vb c1 hne).trans (HX.out.only QD.out (by simp)))
  have Q1 : Hid (Only [g] w W1) := hid (by rw [← hW1]; exact (QD.out.more (by simp) : Only [g] w W).setRow (.inl (by simp)) _)
  have hcp := hcp2.out W1 O1.out X1.out
  rw [hW1]
  clear hW1 QD hcp1 hcp2
  go_wp2_with (at_builtin; refine wpListRun rfl (.tmp 80) (.tmp 81) _ _ rfl _ _ rfl rfl (hcp _ _) ?_)
  go_wp2_with fail
  go_ret
  refine ⟨.slice (some ⟨g, 0, none⟩) (n + 1) cap, rfl, ⟨by rw [rws_len enc_len, insL_len], .inr ⟨g, cap, c2, by rw [HN.out], hbg, setRow_heap W1 g _ _ 77 _ O1.out, by rw [HN.out]; exact hroom, hcm, hfin.out.1, by rw [HN.out]; exact hfin.out.2⟩⟩, ?_, .inl rfl⟩
  have Q2 : Only [g] w (W1.setRow g c2) := Q1.out.setRow (.inl (by simp)) c2
  exact ⟨Q2.os, Q2.tape, Q2.output, Q2.size, fun k hk hne2 => Q2.block k hk (by simp; intro e; exact hne2 (by rw [e]; rfl))⟩
set_option maxRecDepth 100000 in
set_option maxHeartbeats 4000000 in
theorem insGrow (w : World) (base g n cap i vb : Nat) (L : List Mb) (x : Mb) (hown : w.ownsRow base 77 3 (.slice (some ⟨g, 0, none⟩) n cap) n (rws Mb.enc L)) (hn : L.length = n) (hx : Ob w vb 77 (Mb.enc x).toArray) (hb : base ≤ w.heap.size) (hi : i < n) (hnc : n ≤ cap) (hroom : cap < n + 1) (hcm : cap ≤ maxLen) (hbd : n ≤ 100000) :
    Calls Try.prog 41 #[.slice (some ⟨g, 0, none⟩) n cap, .int .i64 (i : Int), .slice (some ⟨vb, 0, none⟩) 1 1] w (InsE L i x base (.slice (some ⟨g, 0, none⟩) n cap) w) := by
  obtain ⟨hcl, hcase⟩ := hown
  obtain ⟨cur, hh, hcs, htk⟩ : ∃ cur : Array Value, Ob w g 77 cur ∧ cur.size = cap * 3 ∧ cur.toList.take (n * 3) = rws Mb.enc L := by
    rcases hcase with ⟨h, _⟩ | ⟨g', cap', cur, hv, hbg, hh, hnc, hcm, hcs, htk⟩
    · cases h
    · injection hv with e1 _ e3
      injection e1 with e1; injection e1 with e1
      subst e1 e3
      exact ⟨cur, hh, hcs, htk⟩
  clear hcase
  have hcc : cap ≤ 9223372036854775807 := by unfold maxLen at hcm; exact hcm
  have hdl : (rws Mb.enc (L.drop i)).length = (n - i) * 3 := by rw [rws_len enc_len, List.length_drop, hn]
  have hdrop : ∀ j u, (rws Mb.enc (L.drop i))[j]? = some u → w.cell? ⟨g, i * 3 + j, none⟩ = some u := fun j u hj => by
    have e : rws Mb.enc (L.drop i) = (cur.toList.take (n * 3)).drop (i * 3) := by rw [htk, rws_drop enc_len _ _ (by omega)]
    rw [e, List.getElem?_drop, List.getElem?_take] at hj
    split at hj
    · rw [hh.cell]; simpa using hj
    · cases hj
  have htl : (rws Mb.enc (L.take i)).length = i * 3 := by rw [rws_len enc_len, List.length_take, hn, Nat.min_eq_left (by omega)]
  have htake : ∀ j u, (rws Mb.enc (L.take i))[j]? = some u → w.cell? ⟨g, j, none⟩ = some u := fun j u hj => by
    rw [← rws_take enc_len L i (by omega), ← htk, List.take_take, Nat.min_eq_left (Nat.mul_le_mul_right _ (by omega)), List.getElem?_take] at hj
    split at hj
    · rw [hh.cell]; simpa using hj
    · cases hj
  obtain ⟨inf, hinf, hz0, hs0, hby0⟩ := info_parts (elemS).info
  have hold : (Builtin.firstCells inf.size i (.slice (some ⟨g, 0, none⟩) i cap)).run Try.prog w.drew = .ok (rws Mb.enc (L.take i)).toArray w.drew :=
    run_firstCells_some (P := Try.prog) w.drew inf.size i ⟨g, 0, none⟩ i cap (rws Mb.enc (L.take i)) (by rw [htl, hs0]) (fun j u hj => by rw [addr_plus, Nat.zero_add]; exact htake j u hj)
  obtain ⟨gc, hgc⟩ : ∃ gc, grownCap w (n + 1) cap 77 = gc := ⟨_, rfl⟩
  have hg1 : n + 1 ≤ gc := by rw [← hgc]; exact grownCap_ge w (n + 1) cap 77
  have hg2 : gc ≤ maxLen := by rw [← hgc]; exact grownCap_le_maxLen w (n + 1) cap 77 (by unfold maxLen; omega)
  obtain ⟨c0, hc0⟩ : ∃ c0 : Array Value, (rws Mb.enc (L.take i)).toArray ++ Builtin.zeroCells ((.agg #[.int .u32 0, .pointer none, .bool false]) : Value).cells (n + 1 - i) ++ Builtin.zeroCells ((.agg #[.int .u32 0, .pointer none, .bool false]) : Value).cells (gc - (n + 1)) = c0 := ⟨_, rfl⟩
  have hc0s : c0.size = gc * 3 := by
    rw [← hc0]
    simp only [Array.size_append, List.size_toArray, htl, size_zeroCells, show ((.agg #[.int .u32 0, .pointer none, .bool false]) : Value).cells.size = 3 from rfl]
    omega
  have hc0t : c0.toList.take (i * 3) = rws Mb.enc (L.take i) := by
    rw [← hc0, Array.toList_append, Array.toList_append, List.append_assoc, ← htl]
    exact List.take_left
  have hap : ∀ ty, (Builtin.append_ #[44, 3] ty #[.slice (some ⟨g, 0, none⟩) i cap, .int .i64 ((n : Int) + 1 - (i : Int))]).run Try.prog w = .ok (.slice (some ⟨w.heap.size, 0, none⟩) (n + 1) gc) (w.drew.alloc (.cells c0 77)) := fun ty => by
    have h9 := Lib.run_append_grow_zeros (P := Try.prog) w 44 3 ty 77 inf _ .i64 .i64 (elemS).ht Try.underlying3 hinf hz0 (some ⟨g, 0, none⟩) i cap (rws Mb.enc (L.take i)) hold (n + 1 - i) (by omega) (by rw [hs0]; omega) (by omega) (by omega) (by rw [hby0]; omega) (by
      rw [hby0]; exact growslice_fits (by omega) (by omega))
    rw [show i + (n + 1 - i) = n + 1 from by omega, hgc, hc0] at h9
    rw [show ((n : Int) + 1 - (i : Int)) = ((n + 1 - i : Nat) : Int) from by omega]
    exact h9
  obtain ⟨h, hhz⟩ : ∃ h, w.heap.size = h := ⟨_, rfl⟩
  obtain ⟨W1, hW1⟩ : ∃ W1, w.drew.alloc (.cells c0 77) = W1 := ⟨_, rfl⟩
  have O1 : Ob W1 h 77 c0 := by rw [← hW1, ← hhz]; exact Ob.new w.drew _ _
  have q1 : Only [] w W1 := by rw [← hW1]; exact ((Only.refl [] w).drew).alloc _
  rw [hW1, hhz] at hap
  have hgh : g < h := by rw [← hhz]; exact hh.lt
  have hvh : vb < h := by rw [← hhz]; exact hx.lt
  obtain ⟨c1, hc1⟩ : ∃ c1 : Array Value, (c0.toList.take (i * 3) ++ Mb.enc x ++ c0.toList.drop (i * 3 + (Mb.enc x).length)).toArray = c1 := ⟨_, rfl⟩
  have hfit1 : i * 3 + (Mb.enc x).length ≤ c0.size := by rw [enc_len, hc0s]; have := Nat.mul_le_mul_right 3 (show i + 1 ≤ gc by omega); omega
  have hcp2 : Hid (∀ ty, (Builtin.copy_ #[44, 44] ty #[.slice (some ⟨h, i * 3, none⟩) (n + 1 - i) (gc - i), .slice (some ⟨vb, 0, none⟩) 1 1]).run Try.prog W1 = .ok (goInt ((min 1 (n + 1 - i) : Nat) : Int)) (W1.setRow h c1)) := hid (fun ty => by
    have h9 := run_copyS (P := Try.prog) W1 elemS 44 ty h (i * 3) (n + 1 - i) (gc - i) vb 0 1 1 c0 77 O1 (Mb.enc x) (by rw [enc_len, Nat.min_eq_left (by omega)]) (fun j u hj => by rw [Nat.zero_add, (hx.only q1 (by simp)).cell]; simpa using hj) (enc_one x) hfit1
    rw [hc1] at h9
    exact h9)
  have hc1s : c1.size = gc * 3 := by
    rw [← hc1]
    simp only [List.size_toArray, List.length_append, List.length_take, List.length_drop, Array.length_toList]
    omega
  obtain ⟨W2, hW2⟩ : ∃ W2, W1.setRow h c1 = W2 := ⟨_, rfl⟩
  have O2 : Ob W2 h 77 c1 := by rw [← hW2]; exact setRow_heap W1 h _ _ 77 _ O1
  have q2 : Only [] w W2 := by rw [← hW2]; exact q1.setRow (.inr (by omega)) _
  rw [hW2] at hcp2
  obtain ⟨c2, hc2⟩ : ∃ c2 : Array Value, (c1.toList.take ((i + 1) * 3) ++ rws Mb.enc (L.drop i) ++ c1.toList.drop ((i + 1) * 3 + (rws Mb.enc (L.drop i)).length)).toArray = c2 := ⟨_, rfl⟩
  have hfit2 : (i + 1) * 3 + (rws Mb.enc (L.drop i)).length ≤ c1.size := by rw [hdl, hc1s, ← Nat.add_mul]; exact Nat.mul_le_mul_right _ (by omega)
  have hcp3 : Hid (∀ W, Only [] W2 W → ∀ ty dc sc, (Builtin.copy_ #[44, 44] ty #[.slice (some ⟨h, (i + 1) * 3, none⟩) (n + 1 - (i + 1)) dc, .slice (some ⟨g, i * 3, none⟩) (n - i) sc]).run Try.prog W = .ok (goInt ((min (n - i) (n + 1 - (i + 1)) : Nat) : Int)) (W.setRow h c2)) := hid (fun W hW ty dc sc => by
    have h9 := run_copyS (P := Try.prog) W elemS 44 ty h ((i + 1) * 3) (n + 1 - (i + 1)) dc g (i * 3) (n - i) sc c1 77 (O2.only hW (by simp)) (rws Mb.enc (L.drop i)) (by rw [hdl]; congr 1; omega) (fun j u hj => (q2.trans hW).keep (hdrop j u hj)) (rws_one enc_one _) hfit2
    rw [hc2] at h9
    exact h9)
  have hfin : Hid (c2.size = gc * 3 ∧ c2.toList.take ((n + 1) * 3) = rws Mb.enc (insL L i x)) := hid (by
    have hl1 : (c0.toList.take (i * 3) ++ Mb.enc x).length = (i + 1) * 3 := by rw [hc0t, List.length_append, htl, enc_len]; omega
    have e1 : c1.toList.take ((i + 1) * 3) = rws Mb.enc (L.take i) ++ Mb.enc x := by
      rw [← hc1]
      show List.take ((i + 1) * 3) (c0.toList.take (i * 3) ++ Mb.enc x ++ _) = _
      rw [← hl1, List.take_left, hc0t]
    refine ⟨?_, ?_⟩
    · rw [← hc2]
      simp only [List.size_toArray, List.length_append, List.length_take, List.length_drop, Array.length_toList]
      omega
    · rw [← hc2]
      show List.take ((n + 1) * 3) (c1.toList.take ((i + 1) * 3) ++ rws Mb.enc (L.drop i) ++ _) = _
      rw [e1, rws_ins, List.append_assoc (rws Mb.enc (L.take i))]
      have hlen : (rws Mb.enc (L.take i) ++ (Mb.enc x ++ rws Mb.enc (L.drop i))).length = (n + 1) * 3 := by
        rw [List.length_append, List.length_append, htl, hdl, enc_len]
        omega
      rw [← hlen, List.take_left])
  have hsB := slB g n cap i (by omega) hcc
  have hsA := slA h 0 (n + 1) gc i (by omega) (by omega) hg1 (by unfold maxLen at hg2; exact hg2)
  have hsC := slA h 0 (n + 1) gc (i + 1) (by omega) (by omega) hg1 (by unfold maxLen at hg2; exact hg2)
  have hsD := slA g 0 n cap i (by omega) (by omega) (by omega) hcc
  simp only [Int.natCast_add, Int.natCast_one] at hsC
  have hw1 : IntKind.i64.wrap ((i : Int) + 1) = (i : Int) + 1 := i64_in _ (by omega)
  have y1 : ¬ (i : Int) = (n : Int) := by omega
  have y2 : (cap : Int) < (n : Int) + 1 := by omega
  have HN := hid hn; have HQ2 := hid q2; have HO2 := hid O2; have HG1 := hid hg1; have HG2 := hid hg2; have HHZ := hid hhz
  clear hcl hcs htk hdl hdrop htl htake hinf hz0 hs0 hby0 hold hgc hc0 hc0s hc0t hW1 O1 q1 hc1 hfit1 hc1s hW2 O2 q2 hc2 hfit2 hh hx hn hg1 hg2 hhz hgh hvh
  go_enter Try.func41, Try.ntmps41
  have hcpv := hcp2.out
  go_wp2_with (at_builtin; refine Lib.wpList_append_run w rfl (.tmp 34) (.tmp 39) 44 3 rfl _ _ rfl rfl _ _ (hap _) ?_)
  refine wp_region_noPanic ?_
  refine rgn.regionT (R := AnyW) (by kernel_rfl) (fun _ => AnyW.any _ _) (fun _ _ _ _ _ => AnyW.any _ _) (fun _ _ _ _ _ h => h) (.y 0 (.y 1 (.y 2 (.y 3 (.y 4 (.y 5 (.y 6 (.y 7 (.e 8 .z))))))))) (by kernel_rfl) (fun W hWd => ?_)
  have HWd := hid hWd; clear hWd
  have QD : Hid (Only [] W2 W) := hid (Only.eq_drew (Only.refl [] _) HWd.out)
  clear HWd
  refine rgn.Walk.ys (v := ?_) rfl rfl rfl ?_ ?_
  rotate_left 1
  · intro W' hW'
    go_simp
    try with_reducible rfl
  try simp only [Act.put, List.setIfInBounds_toArray, List.set_cons_zero, List.set_cons_succ]
  refine rgn.Walk.ys (v := ?_) rfl rfl rfl ?_ ?_
  rotate_left 1
  · intro W' hW'
    go_simp
    try with_reducible rfl
  try simp only [Act.put, List.setIfInBounds_toArray, List.set_cons_zero, List.set_cons_succ]
  refine rgn.Walk.ys (v := ?_) rfl rfl rfl ?_ ?_
  rotate_left 1
  · intro W' hW'
    go_simp
    try with_reducible rfl
  try simp only [Act.put, List.setIfInBounds_toArray, List.set_cons_zero, List.set_cons_succ]
  refine rgn.Walk.ys (v := ?_) rfl rfl rfl ?_ ?_
  rotate_left 1
  · intro W' hW'
    go_simp
    try with_reducible rfl
  try simp only [Act.put, List.setIfInBounds_toArray, List.set_cons_zero, List.set_cons_succ]
  refine rgn.Walk.ys (v := ?_) rfl rfl rfl ?_ ?_
  rotate_left 1
  · intro W' hW'
    try rw [hw1]
    have gs := hsC W'
    go_simp
    try with_reducible rfl
  try simp only [Act.put, List.setIfInBounds_toArray, List.set_cons_zero, List.set_cons_succ]
  refine rgn.Walk.ys (v := ?_) rfl rfl rfl ?_ ?_
  rotate_left 1
  · intro W' hW'
    go_simp
    try with_reducible rfl
  try simp only [Act.put, List.setIfInBounds_toArray, List.set_cons_zero, List.set_cons_succ]
  refine rgn.Walk.ys (v := ?_) rfl rfl rfl ?_ ?_
  rotate_left 1
  · intro W' hW'
    go_simp
    try with_reducible rfl
  try simp only [Act.put, List.setIfInBounds_toArray, List.set_cons_zero, List.set_cons_succ]
  refine rgn.Walk.ys (v := ?_) rfl rfl rfl ?_ ?_
  rotate_left 1
  · intro W' hW'
    have gs := hsD W'
    go_simp
    try with_reducible rfl
  try simp only [Act.put, List.setIfInBounds_toArray, List.set_cons_zero, List.set_cons_succ]
  refine rgn.Walk.es ?_
  refine rgn.stepE rfl rfl (fun K hK => ?_)
  refine opRun rfl (.tmp 50) (.tmp 53) _ _ rfl _ _ (by go_simp) (by go_simp) (hcp3.out W QD.out _ (gc - (i + 1)) (cap - i)) ?_
  refine hK _ _ (AnyW.any _ _) ?_
  clear hK K
  try simp only [Act.put, List.setIfInBounds_toArray, List.set_cons_zero, List.set_cons_succ]
  refine rgn.Walk.zs (NoPanic.normal ?_)
  have QW : Hid (Only [] w (W.setRow h c2)) := hid ((HQ2.out.trans QD.out).setRow (.inr (by rw [HHZ.out]; exact Nat.le_refl _)) _)
  go_wp2_with fail
  go_ret
  refine ⟨.slice (some ⟨h, 0, none⟩) (n + 1) gc, rfl, ⟨by rw [rws_len enc_len, insL_len], .inr ⟨h, gc, c2, by rw [HN.out], by rw [← HHZ.out]; exact hb, setRow_heap W h _ _ 77 _ (HO2.out.only QD.out (by simp)), by rw [HN.out]; exact HG1.out, HG2.out, hfin.out.1, by rw [HN.out]; exact hfin.out.2⟩⟩, ?_, .inr (fun j hj => Nat.le_of_eq (HHZ.out.trans (by simpa [Value.ownBlock] using hj)))⟩
  exact ⟨QW.out.os, QW.out.tape, QW.out.output, QW.out.size, fun k hk _ => QW.out.block k hk (by simp)⟩
/-- slices.Insert, whatever room there is. -/
theorem ins1 (w : World) (base : Nat) (v : Value) (L : List Mb) (i vb : Nat) (x : Mb) (hown : w.ownsRow base 77 3 v L.length (rws Mb.enc L)) (hx : Ob w vb 77 (Mb.enc x).toArray) (hne : v.ownBlock ≠ some vb) (hb : base ≤ w.heap.size) (hi : i ≤ L.length) (hbd : L.length ≤ 100000) :
    Calls Try.prog 41 #[v, .int .i64 (i : Int), .slice (some ⟨vb, 0, none⟩) 1 1] w (InsE L i x base v w) := by
  rcases Nat.lt_or_ge i L.length with h | h
  · rcases hown.2 with ⟨_, h0⟩ | ⟨g, cap, cur, rfl, hbg, hh, hnc, hcm, hcs, htk⟩
    · omega
    · by_cases hr : L.length + 1 ≤ cap
      · exact insRoom w base g L.length cap i vb L x hown rfl hx (fun e => hne (by rw [e]; rfl)) hbg h hr hcm hbd
      · exact insGrow w base g L.length cap i vb L x hown rfl hx hb h hnc (by omega) hcm hbd
  · obtain rfl : i = L.length := by omega
    exact insEnd w base v L L.length vb x hown rfl hx hb hbd
end Go.Proofs.Ytodcjokafjdhdaa.igm
