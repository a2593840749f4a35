/-
  slices.Delete over a row of structs (igmp), by a walk of its text. Conditions: none but those typed.
-/
import Derived.Test.YtodcjokafjdhdaaBsfI
namespace Go.Proofs.Ytodcjokafjdhdaa.igm
set_option linter.unusedVariables false
set_option linter.unusedSimpArgs false
open Go.ChangeShapes Go.WideShapes Go.ChangeAt Go.RowKit Go.IntWalk Go.Lib
theorem elemD : ElemS Try.prog 44 77 (.agg #[.int .u32 0, .pointer none, .bool false]) 3 24 := ⟨Try.underlying44, by kernel_rfl, rfl, by omega⟩
theorem elemZero (w : World) : (zeroValue 77).run Try.prog w = .ok (.agg #[.int .u32 0, .pointer none, .bool false]) w := by kernel_rfl
set_option maxRecDepth 100000 in
set_option maxHeartbeats 2000000 in
theorem del1 (w : World) (b n cap i j : Nat) (cur : Array Value) (h : Ob w b 77 cur) (hij : i < j) (hjn : j ≤ n) (hnc : n ≤ cap) (hm : cap ≤ maxLen) (hs : cur.size = cap * 3) (h1 : ∀ u ∈ cur.toList.take (n * 3), u.oneCell' = true) :
    Calls Try.prog 44 #[.slice (some ⟨b, 0, none⟩) n cap, .int .i64 i, .int .i64 j] w fun x w' => x = .returned (.slice (some ⟨b, 0, none⟩) (i + (n - j)) cap) ∧ ∃ cur' : Array Value, Ob w' b 77 cur' ∧ cur'.size = cap * 3 ∧ cur'.toList.take ((i + (n - j)) * 3) = cur.toList.take (i * 3) ++ (cur.toList.take (n * 3)).drop (j * 3) ∧ Only [b] w w' := by
  have hcap : cap ≤ 9223372036854775807 := by unfold maxLen at hm; omega
  have hic : i ≤ cap := by omega
  have hjc : j ≤ cap := by omega
  have HQ : Hid (Only [b] w w) := hid (Only.refl _ _)
  have HS := hid hs
  have HO := hid h
  have hblt := h.lt
  have HR0 : RdS w (some ⟨b, 0, none⟩) n 3 (cur.toList.take (n * 3)) := ⟨by rw [List.length_take, Array.length_toList, hs]; exact Nat.min_eq_left (Nat.mul_le_mul_right _ hnc), h1, fun _ => ⟨b, 0, rfl, h.lt, fun t u hu => by
    rw [List.getElem?_take] at hu
    split at hu
    · rw [Nat.zero_add, h.cell]; simpa using hu
    · cases hu⟩⟩
  obtain ⟨A2, HA2, HR, HAS⟩ : ∃ A2 : Option Addr, Hid ((if cap = j then (some ⟨b, 0, none⟩ : Option Addr) else some ⟨b, 0 + j * 3, none⟩) = A2) ∧ Hid (RdS w A2 (n - j) 3 ((cur.toList.take (n * 3)).drop (j * 3))) ∧ Hid (∃ b off, A2 = some ⟨b, off, none⟩) := by
    by_cases hc : cap = j
    · exact ⟨_, hid (if_pos hc), hid (HR0.dropIf j hjn hnc (.inl ⟨rfl, hc⟩)), hid ⟨_, _, rfl⟩⟩
    · exact ⟨_, hid (if_neg hc), hid (HR0.dropIf j hjn hnc (.inr rfl)), hid ⟨_, _, rfl⟩⟩
  clear h hs h1 HR0
  go_enter Try.func44, Try.ntmps44
  go_wp2_with fail
  refine wp_region_noPanic ?_
  refine rgn.regionT (R := AnyW) (by kernel_rfl) (fun _ => AnyW.any _ _) (fun _ _ _ _ _ => AnyW.any _ _) (fun _ _ _ _ _ h => h) (.y 0 (.y 1 (.y 2 (.y 3 (.y 4 (.y 5 (.e 6 (.e 7 .z)))))))) (by kernel_rfl) (fun W hWd => ?_)
  have HWd := hid hWd; clear hWd
  have HR := hid (HR.out.only_nil (Only.eq_drew (Only.refl [] w) HWd.out)); have HO := hid (HO.out.eq_drew HWd.out); have HQ := hid (HQ.out.eq_drew HWd.out)
  have HSP := hid (HO.out.spare (0 + i * 3) ((n - j) * 3) (by rw [HS.out, Nat.zero_add]; exact mul_fit (by omega)))
  refine rgn.Walk.ys (v := ?_) rfl rfl rfl ?_ ?_
  rotate_left 1
  · intro W' hW'
    go_simp
    try with_reducible rfl
  try simp only [Act.put, List.setIfInBounds_toArray, List.set_cons_zero, List.set_cons_succ]
  refine rgn.Walk.ys (v := ?_) rfl rfl rfl ?_ ?_
  rotate_left 1
  · intro W' hW'
    go_simp
    try with_reducible rfl
  try simp only [Act.put, List.setIfInBounds_toArray, List.set_cons_zero, List.set_cons_succ]
  refine rgn.Walk.ys (v := ?_) rfl rfl rfl ?_ ?_
  rotate_left 1
  · intro W' hW'
    go_simp
    try with_reducible rfl
  try simp only [Act.put, List.setIfInBounds_toArray, List.set_cons_zero, List.set_cons_succ]
  refine rgn.Walk.ys (v := ?_) rfl rfl rfl ?_ ?_
  rotate_left 1
  · intro W' hW'
    go_simp
    try with_reducible rfl
  try simp only [Act.put, List.setIfInBounds_toArray, List.set_cons_zero, List.set_cons_succ]
  refine rgn.Walk.ys (v := ?_) rfl rfl rfl ?_ ?_
  rotate_left 1
  · intro W' hW'
    go_simp
    try with_reducible rfl
  try simp only [Act.put, List.setIfInBounds_toArray, List.set_cons_zero, List.set_cons_succ]
  refine rgn.Walk.ys (v := ?_) rfl rfl rfl ?_ ?_
  rotate_left 1
  · intro W' hW'
    go_simp
    try with_reducible rfl
  try simp only [Act.put, List.setIfInBounds_toArray, List.set_cons_zero, List.set_cons_succ]
  refine rgn.Walk.es ?_
  refine rgn.stepE rfl rfl (fun K hK => ?_)
  refine opAppRoom rfl (.tmp 22) (.tmp 25) _ rfl elemD b 0 i cap (by go_simp) A2 (n - j) (cap - j) ((cur.toList.take (n * 3)).drop (j * 3)) (by rw [← HA2.out]; go_simp) HAS.out HR.out (by omega) HSP.out ?_
  refine hK _ _ (AnyW.any _ _) ?_
  clear hK K
  try simp only [Act.put, List.setIfInBounds_toArray, List.set_cons_zero, List.set_cons_succ]
  refine rgn.Walk.es ?_
  refine rgn.stepE rfl rfl (fun K hK => ?_)
  go_simp
  refine hK _ _ ((fun _ => AnyW.any _ _) _) ?_
  clear hK K
  try simp only [Act.put, List.setIfInBounds_toArray, List.set_cons_zero, List.set_cons_succ]
  refine rgn.Walk.zs (NoPanic.normal ?_)
  obtain ⟨W1, hW1⟩ : ∃ W1, W1 = W.setCells b (i * 3) ((cur.toList.take (n * 3)).drop (j * 3)) := ⟨_, rfl⟩
  rw [← hW1]
  have hsz := HS.out
  have hnl : ((cur.toList.take (n * 3)).drop (j * 3)).length = (n - j) * 3 := HR.out.len
  have hfit : i * 3 + (n - j) * 3 ≤ cap * 3 := mul_fit (by omega)
  have HO1 := hid (show Ob W1 b 77 _ from by rw [hW1]; exact HO.out.spl _ (i * 3) (by rw [hnl]; omega))
  have HQ1 := hid (show Only [b] w W1 from by rw [hW1]; exact Only.setAll (.inl (by simp)) _ _ _ HQ.out)
  have hlo : (cur.toList.take (i * 3)).length = i * 3 := by rw [List.length_take, Array.length_toList, hsz]; exact Nat.min_eq_left (Nat.mul_le_mul_right _ (by omega))
  have HS1 : Hid ((cur.toList.take (i * 3) ++ (cur.toList.take (n * 3)).drop (j * 3) ++ cur.toList.drop (i * 3 + ((cur.toList.take (n * 3)).drop (j * 3)).length)).toArray.size = cap * 3) := hid (by
    simp only [List.size_toArray, List.length_append, hlo, hnl, List.length_drop, Array.length_toList, hsz]
    omega)
  have HT1 : Hid ((cur.toList.take (i * 3) ++ (cur.toList.take (n * 3)).drop (j * 3) ++ cur.toList.drop (i * 3 + ((cur.toList.take (n * 3)).drop (j * 3)).length)).toArray.toList.take ((i + (n - j)) * 3) = cur.toList.take (i * 3) ++ (cur.toList.take (n * 3)).drop (j * 3)) := hid (by
    rw [show ((i + (n - j)) * 3) = (cur.toList.take (i * 3) ++ (cur.toList.take (n * 3)).drop (j * 3)).length from by rw [List.length_append, hlo, hnl, Nat.add_mul]]
    exact List.take_left)
  generalize (cur.toList.take (i * 3) ++ (cur.toList.take (n * 3)).drop (j * 3) ++ cur.toList.drop (i * 3 + ((cur.toList.take (n * 3)).drop (j * 3)).length)).toArray = cur1 at *
  clear HO HQ HSP HAS HA2 HR hW1 hnl hlo hfit hsz HWd
  have hpos : 0 < n - (i + (n - j)) := by omega
  have hz2 : ((.agg #[.int .u32 0, .pointer none, .bool false]) : Value).cells.size = 3 := rfl
  obtain ⟨news2, hn2, hcl⟩ := run_clear_wide (P := Try.prog) W1 44 77 0 (.agg #[.int .u32 0, .pointer none, .bool false]) Try.underlying44 (elemZero W1) (by decide) b ((i + (n - j)) * 3) (n - (i + (n - j))) (cap - (i + (n - j))) hpos
    (fun t ht => (HO1.out.spare _ _ (by rw [HS1.out]; have h2 := mul_fit (s := 3) (show i + (n - j) + (n - (i + (n - j))) ≤ cap by omega); exact h2) t ht).1) (fun t ht => HO1.out.frozen _)
  rw [hz2] at hn2
  have hfit2 : (i + (n - j)) * 3 + news2.length ≤ cur1.size := by rw [hn2, HS1.out]; exact mul_fit (by omega)
  have hlt2 : (cur1.toList.take ((i + (n - j)) * 3)).length = (i + (n - j)) * 3 := by rw [List.length_take, Array.length_toList]; exact Nat.min_eq_left (by omega)
  have HF : Hid (∃ cur' : Array Value, Ob (W1.setCells b ((i + (n - j)) * 3) news2) b 77 cur' ∧ cur'.size = cap * 3 ∧ cur'.toList.take ((i + (n - j)) * 3) = cur.toList.take (i * 3) ++ (cur.toList.take (n * 3)).drop (j * 3) ∧ Only [b] w (W1.setCells b ((i + (n - j)) * 3) news2)) := hid (by
    refine ⟨_, HO1.out.spl news2 _ hfit2, ?_, ?_, Only.setAll (.inl (by simp)) _ _ _ HQ1.out⟩
    · simp only [List.size_toArray, List.length_append, hlt2, List.length_drop, Array.length_toList]
      rw [← HS1.out]; omega
    · rw [← HT1.out]
      show List.take ((i + (n - j)) * 3) (cur1.toList.take ((i + (n - j)) * 3) ++ news2 ++ _) = _
      rw [List.append_assoc]
      have h9 := List.take_left (l₁ := cur1.toList.take ((i + (n - j)) * 3)) (l₂ := news2 ++ List.drop ((i + (n - j)) * 3 + news2.length) cur1.toList)
      rw [hlt2] at h9
      exact h9)
  clear hn2 hz2 hfit2 hlt2 HO1 HS1 HT1 HQ1
  go_wp2
  all_goals go_ret
  all_goals first | exact ⟨rfl, HF.out⟩ | (have h9 := HF.out; rw [‹cap = j›] at h9; exact ⟨rfl, h9⟩)
end Go.Proofs.Ytodcjokafjdhdaa.igm
