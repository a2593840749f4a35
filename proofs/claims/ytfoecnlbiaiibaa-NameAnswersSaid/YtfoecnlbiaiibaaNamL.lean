/-
  Chapter 21 (name): labels of any text, by a walk of its text: the range over the string's runes meets each dot. Conditions: none but those typed.
-/
import Derived.Test.YtfoecnlbiaiibaaNamP
import Derived.Test.YtfoecnlbiaiibaaSrw
namespace Go.Proofs.Ytfoecnlbiaiibaa.nam
set_option linter.unusedVariables false
set_option linter.unusedSimpArgs false
open Go.ChangeShapes Go.WideShapes Go.ChangeAt Go.RowKit Go.IntWalk Go.Lib
theorem elemSt : ElemS Try.prog 54 9 (.string ⟨#[]⟩) 1 16 := ⟨Try.underlying54, by kernel_rfl, by kernel_rfl, by decide⟩
def strs (l : List (List Int)) : List Value := l.map fun x => .string (strOfNums x)
theorem strs_len (l : List (List Int)) : (strs l).length = l.length := by unfold strs; rw [List.length_map]
theorem strs_app (a b : List (List Int)) : strs (a ++ b) = strs a ++ strs b := by unfold strs; rw [List.map_append]
theorem strs_one (l : List (List Int)) : ∀ u ∈ strs l, u.oneCell' = true := fun u hu => by
  unfold strs at hu
  obtain ⟨x, _, rfl⟩ := List.mem_map.1 hu
  rfl
theorem only_iterAt {S : List Nat} {w0 w : World} (h : Only S w0 w) (k : Nat) (hk : w0.heap.size ≤ k) (s : ByteArray) (pos : Nat) : Only S w0 (w.iterAt k s pos) :=
  ⟨h.os, h.tape, h.output, by rw [iterAt_size]; exact h.size, fun i hi hs => by rw [iterAt_other _ _ _ _ _ (by omega)]; exact h.block i hi hs⟩
theorem only_self_iterAt (w : World) (k : Nat) (s : ByteArray) (pos : Nat) : Only [k] w (w.iterAt k s pos) :=
  ⟨rfl, rfl, rfl, by rw [iterAt_size]; exact Nat.le_refl _, fun i hi hs => iterAt_other _ _ _ _ _ (by simpa using hs)⟩
theorem rdS_one (w : World) (e : TypeId) (v : Value) (hv : v.oneCell' = true) : RdS (w.alloc (.cells #[v] e)) (some ⟨w.heap.size, 0, none⟩) 1 1 [v] := ⟨rfl, fun x hx => by rw [show x = v from by simpa using hx]; exact hv, fun _ => ⟨w.heap.size, 0, rfl, by simp, fun j u hj => by
  cases j with
  | zero =>
    rw [show u = v from by simpa using hj.symm, (Ob.new w e #[v]).cell]; rfl
  | succ j => simp at hj⟩⟩
theorem str_isEmpty (s : ByteArray) (n : Nat) (h : s.size = n) : s.toList.isEmpty = decide (n = 0) := by
  rw [ByteArray.toList_eq]
  have h2 : s.data.toList.length = n := by rw [Array.length_toList]; exact h
  generalize s.data.toList = l at h2
  subst h2
  cases l <;> rfl
set_option maxHeartbeats 2000000 in
set_option maxRecDepth 100000 in
theorem labelsL (w : World) (s : ByteArray) (hs : s.size ≤ 254) : Calls Try.prog 24 #[.string s] w fun x w' => ∃ v, x = .returned v ∧ w'.ownsRow w.heap.size 9 1 v (labsOf (chs s)).length (strs (labsOf (chs s))) ∧ Only [] w w' := by
  by_cases h0 : s.size = 0
  · have he : s.toList.isEmpty = true := by rw [str_isEmpty s 0 h0]; rfl
    have hL : chs s = [] := List.eq_nil_of_length_eq_zero (by rw [chs_len]; exact h0)
    rw [hL, labsOf_nil]
    go_enter Try.func24, Try.ntmps24
    go_wp2
    go_ret
    exact ⟨_, rfl, ⟨rfl, .inl ⟨rfl, rfl⟩⟩, Only.refl _ _⟩
  · have he : s.toList.isEmpty = false := by rw [str_isEmpty s _ rfl]; exact decide_eq_false h0
    have hL := chs_len s
    go_enter Try.func24, Try.ntmps24
    go_wp2
    go_loopw [3, 4, 5, 6] (fun v3 v4 v5 v6 wr => ∃ (vo : Value) (first pos : Nat) (done : List (List Int)), vo = v3 ∧ v4 = .int .i64 first ∧ first ≤ pos ∧ pos ≤ s.size ∧ done.length ≤ first ∧ wr.heap[w.heap.size]? = some (.stringIter s pos) ∧ Hid (wr.ownsRow (w.heap.size + 1) 9 1 vo done.length (strs done)) ∧ Hid (Only [] w wr) ∧ Hid (done ++ cutF (seg (chs s) first pos) ((chs s).drop pos) = cutF [] (chs s))) (fun _ _ _ _ wr => s.size - wr.iterPos w.heap.size)
    case atStart =>
      refine ⟨_, 0, 0, [], rfl, rfl, by omega, by omega, by simp, by simpa using World.iter_heap w s 0, hid ?_, hid ((Only.refl [] w).alloc _), hid (by rw [seg_self]; rfl)⟩
      exact ⟨rfl, .inl ⟨rfl, rfl⟩⟩
    case round =>
      obtain ⟨vo, first, pos, done, rfl, rfl, hf, hp, hd, hit, HO, HB, HC⟩ := hrel
      have hsz : w.heap.size < wr.heap.size := (Array.getElem?_eq_some_iff.1 hit).1
      by_cases hlt : pos < s.size
      · have hnx : ∀ ty, (Instr.next (.pointer (some ⟨w.heap.size, 0, none⟩)) true ty).run Try.prog wr = _ := fun ty => Lib.run_next_any_at wr w.heap.size s pos ty hit hlt
        have hit2 := Lib.iterAt_heap wr w.heap.size s pos (pos + (Utf8.decode s pos).2) hit
        have HB2 : Hid (Only [] w (wr.iterAt w.heap.size s (pos + (Utf8.decode s pos).2))) := hid (only_iterAt HB.out _ (Nat.le_refl _) _ _)
        have HO2 : Hid ((wr.iterAt w.heap.size s (pos + (Utf8.decode s pos).2)).ownsRow (w.heap.size + 1) 9 1 vo done.length (strs done)) := hid (own_only HO.out (only_self_iterAt _ _ _ _) (fun b hb => by have := (own_lt HO.out b hb).1; simp; omega))
        have hsz2 : w.heap.size < (wr.iterAt w.heap.size s (pos + (Utf8.decode s pos).2)).heap.size := by rw [Lib.iterAt_size]; omega
        have hd1 := decode_le s pos
        have hip : wr.iterPos w.heap.size = pos := by simp only [World.iterPos, hit]
        have hds := dec_step s pos hlt
        obtain ⟨⟨c, k⟩, hdec⟩ : ∃ d, Utf8.decode s pos = d := ⟨_, rfl⟩
        simp only [hdec] at hnx hit2 HB2 HO2 hsz2 hd1 hds
        clear hdec hit
        rcases hds with ⟨h46, hck⟩ | ⟨hne, hw1, hw2, hno⟩
        · obtain ⟨rfl, rfl⟩ : c = 46 ∧ k = 1 := by simpa using hck
          clear hck
          have hsl : ∀ W : World, (Instr.slice 9 (.string s) (some (.int .i64 (first : Int))) (some (.int .i64 (pos : Int))) none).run Try.prog W = .ok (.string (strOfNums (seg (chs s) first pos))) W := fun W => by
            rw [← extract_seg]
            have q1 : (0 : Int) ≤ first ∧ (first : Int) ≤ pos := by omega
            have q2 : (pos : Int) ≤ s.size := by omega
            go_simp
          obtain ⟨W, hW⟩ : ∃ W, wr.iterAt w.heap.size s (pos + 1) = W := ⟨_, rfl⟩
          rw [hW] at hit2 HB2 HO2 hsz2 hnx
          have HW := hid hW
          clear hW
          obtain ⟨t, ht⟩ : ∃ t, strOfNums (seg (chs s) first pos) = t := ⟨_, rfl⟩
          rw [ht] at hsl
          have HT := hid ht
          clear ht
          have HO3 : Hid ((W.alloc (.cells #[.string t] 9)).ownsRow (w.heap.size + 1) 9 1 vo done.length (strs done)) := hid (own_only_nil HO2.out ((Only.refl [] W).alloc _))
          have HR3 := hid (rdS_one W 9 (.string t) rfl)
          have HB3 : Hid (Only [] w (W.alloc (.cells #[.string t] 9))) := hid (HB2.out.alloc _)
          go_wp2_with (at_builtin; refine wpList_appS _ rfl (.tmp 17) (.tmp 22) _ rfl elemSt (w.heap.size + 1) vo done.length (strs done) rfl HO3.out (some ⟨W.heap.size, 0, none⟩) 1 1 [.string t] rfl HR3.out (by intro e; cases e) (.inr ⟨_, _, rfl⟩) (by omega) (by unfold maxLen; omega) (by simp; omega) ?_)
          intro v4 w4 hv4 hg4 hb4
          have hit4 : w4.heap[w.heap.size]? = some (.stringIter s (pos + 1)) := by
            rw [hg4.block _ (by simp; omega) (fun e => by have := (own_lt HO3.out _ e.symm).1; omega), alloc_old _ _ _ hsz2]
            exact hit2
          have HB4 : Hid (Only [] w w4) := hid (HB3.out.of_grown hg4 (fun k hk => by have := (own_lt HO3.out k hk).1; omega))
          have HO4 : Hid (w4.ownsRow (w.heap.size + 1) 9 1 v4 (done ++ [seg (chs s) first pos]).length (strs (done ++ [seg (chs s) first pos]))) := hid (by
            rw [List.length_append, strs_app]
            unfold strs
            simp only [List.map_cons, List.map_nil, HT.out]
            exact hv4)
          clear hv4 hg4 hb4 hit2
          go_wp2_with fail
          go_roundw
          case measure => simp only [World.iterPos, hit4] at *; omega
          case rel => exact ⟨v4, pos + 1, pos + 1, done ++ [seg (chs s) first pos], rfl, by congr 1, by omega, by omega, by rw [List.length_append]; simp; omega, hit4, HO4, HB4, hid (by
            rw [← HC.out, cut_dot hf (by rw [hL]; exact hlt) (by rw [chs_at]; exact h46)]; simp)⟩
        · have hnez : ¬ ((c : Nat) : Int) = 46 := by omega
          have HNo := hid hno
          clear hno
          go_wp2_with fail
          go_roundw
          case measure => simp only [World.iterPos, hit2] at *; omega
          case rel => exact ⟨vo, first, pos + k, done, rfl, rfl, by omega, hw2, hd, hit2, HO2, HB2, hid (by rw [← HC.out, cut_not hf HNo.out])⟩
      · have hnx : ∀ ty, (Instr.next (.pointer (some ⟨w.heap.size, 0, none⟩)) true ty).run Try.prog wr = _ := fun ty => Lib.run_next_end_at wr w.heap.size s pos ty hit hlt
        obtain rfl : pos = s.size := by omega
        have hsl : ∀ W : World, (Instr.slice 9 (.string s) (some (.int .i64 (first : Int))) none none).run Try.prog W = .ok (.string (strOfNums (seg (chs s) first s.size))) W := fun W => by
          rw [← extract_seg]
          have q1 : (0 : Int) ≤ first ∧ (first : Int) ≤ s.size := by omega
          go_simp
        obtain ⟨t, ht⟩ : ∃ t, strOfNums (seg (chs s) first s.size) = t := ⟨_, rfl⟩
        rw [ht] at hsl
        have HT := hid ht
        clear ht
        have HO3 : Hid ((wr.alloc (.cells #[.string t] 9)).ownsRow (w.heap.size + 1) 9 1 vo done.length (strs done)) := hid (own_only_nil HO.out ((Only.refl [] wr).alloc _))
        have HR3 := hid (rdS_one wr 9 (.string t) rfl)
        have HB3 : Hid (Only [] w (wr.alloc (.cells #[.string t] 9))) := hid (HB.out.alloc _)
        go_wp2_with (at_builtin; refine wpList_appS _ rfl (.tmp 26) (.tmp 30) _ rfl elemSt (w.heap.size + 1) vo done.length (strs done) rfl HO3.out (some ⟨wr.heap.size, 0, none⟩) 1 1 [.string t] rfl HR3.out (by intro e; cases e) (.inr ⟨_, _, rfl⟩) (by omega) (by unfold maxLen; omega) (by simp; omega) ?_)
        intro v4 w4 hv4 hg4 hb4
        have HB4 : Hid (Only [] w w4) := hid (HB3.out.of_grown hg4 (fun k hk => by have := (own_lt HO3.out k hk).1; omega))
        have HO4 : Hid (w4.ownsRow w.heap.size 9 1 v4 (labsOf (chs s)).length (strs (labsOf (chs s)))) := hid (by
          have hlab : labsOf (chs s) = done ++ [seg (chs s) first s.size] := by
            rw [labsOf_ne (fun e => h0 (by rw [← hL, e]; rfl)), ← HC.out, ← hL, cut_end]
          rw [hlab, List.length_append, strs_app]
          refine own_mono (base := w.heap.size + 1) ?_ (by omega)
          unfold strs
          simp only [List.map_cons, List.map_nil, HT.out]
          exact hv4)
        clear hv4 hg4 hb4
        go_wp2_with fail
        go_ret
        exact ⟨_, rfl, HO4.out, HB4.out⟩
end Go.Proofs.Ytfoecnlbiaiibaa.nam
