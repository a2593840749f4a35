/-
  Chapter 10 (igmp): Leave, and Hear of whatever is heard, over data, by a walk of each text. Conditions: none but those typed.
-/
import Derived.Test.YtodcjokafjdhdaaIgF
import Derived.Test.YtodcjokafjdhdaaDelI
namespace Go.Proofs.Ytodcjokafjdhdaa.igm
set_option linter.unusedVariables false
set_option linter.unusedSimpArgs false
open Go.ChangeShapes Go.WideShapes Go.ChangeAt Go.RowKit Go.IntWalk Go.Lib
theorem has_at {M : List Mb} {t : Int} (h : has M t = true) : ∃ hk : spot M t < M.length, (M[spot M t]).g = t := by
  unfold has at h
  split at h
  · next a ha =>
    obtain ⟨hk, he⟩ := List.getElem?_eq_some_iff.1 ha
    exact ⟨hk, by rw [he]; simpa using h⟩
  · cases h
theorem has_iff {M : List Mb} (hM : Rise M) (t : Int) : has M t = true ↔ ∃ x ∈ M, x.g = t := by
  constructor
  · intro h
    obtain ⟨hk, e⟩ := has_at h
    exact ⟨_, List.getElem_mem hk, e⟩
  · rintro ⟨x, hx, rfl⟩
    obtain ⟨i, hi, rfl⟩ := List.getElem_of_mem hx
    have hs : spot M (M[i]).g = i := spot_eq M _ i (by omega) (fun k hk hki => hM.lt hi hki) (fun k hk hki => by
      rcases Nat.lt_or_ge i k with h3 | h3
      · exact Int.le_of_lt (hM.lt hk h3)
      · have : k = i := by omega
        subst this; exact Int.le_refl _)
    unfold has
    rw [hs, List.getElem?_eq_getElem hi]
    simp
def DelE (base : Nat) (v : Value) (L : List Mb) (i : Nat) (w : World) (x : Ending) (w' : World) : Prop := ∃ g cap, x = .returned (.slice (some ⟨g, 0, none⟩) (L.length - 1) cap) ∧ w'.ownsRow base 77 3 (.slice (some ⟨g, 0, none⟩) (L.length - 1) cap) (L.length - 1) (rws Mb.enc (L.take i ++ L.drop (i + 1))) ∧ v.ownBlock = some g ∧ Only v.ownBlock.toList w w'
theorem delL (w : World) (base : Nat) (v : Value) (L : List Mb) (i : Nat) (hv : w.ownsRow base 77 3 v L.length (rws Mb.enc L)) (hi : i < L.length) (hb : L.length ≤ 100000) :
    Calls Try.prog 44 #[v, .int .i64 (i : Int), .int .i64 ((i : Int) + 1)] w (DelE base v L i w) := by
  rcases hv.2 with ⟨_, h0⟩ | ⟨g, cap, cur, rfl, hbg, hh, hnc, hcm, hcs, htk⟩
  · omega
  · have hd := del1 w g L.length cap i (i + 1) cur hh (by omega) (by omega) hnc hcm hcs (by rw [htk]; exact rws_one enc_one L)
    rw [show (((i + 1 : Nat)) : Int) = (i : Int) + 1 from by omega] at hd
    refine hd.mono ?_
    rintro x w' ⟨rfl, cur', ho, hs, ht, o⟩
    have e1 : i + (L.length - (i + 1)) = L.length - 1 := by omega
    rw [e1] at ht ⊢
    refine ⟨g, cap, rfl, ⟨?_, .inr ⟨g, cap, cur', rfl, hbg, ho, by omega, hcm, hs, ?_⟩⟩, rfl, o⟩
    · rw [rws_len enc_len, List.length_append, List.length_take, List.length_drop]
      congr 1; omega
    · rw [ht, htk, rws_app]
      have hti : cur.toList.take (i * 3) = (cur.toList.take (L.length * 3)).take (i * 3) := by
        rw [List.take_take, Nat.min_eq_left (Nat.mul_le_mul_right _ (by omega))]
      rw [hti, htk, rws_take enc_len L i (by omega), rws_drop enc_len L (i + 1) (by omega)]
def leaveE (S : List Gm) (t : Int) : Int := if hasS S t = true then 0 else 7
def leaveS (S : List Gm) (t : Int) : List Gm := if hasS S t = true then S.take (spotS S t) ++ S.drop (spotS S t + 1) else S
def leaveA (S : List Gm) (t : Int) : Bool := match S[spotS S t]? with
  | some a => decide (a.g = t) && a.o
  | none => false
/-- A farewell's cells. -/
def ibye (t : Int) : List Value := [.int .i64 23, .int .i64 0, .int .u32 t]
def LeaveH (B g : Nat) (F : List Nat) (er : Int) (S' : List Gm) (snd : Bool) (t : Int) (w : World) (x : Ending) (w' : World) : Prop :=
  ∃ A n c cs F', x = .returned (.tuple #[.slice A n c, .int .i64 er]) ∧ (cs, n) = (if snd = true then (ibye t, 1) else ([], 0)) ∧ RdS w' A n 3 cs ∧ (∀ b off, A = some ⟨b, off, none⟩ → w.heap.size ≤ b) ∧ HStep w B g F w' F' S' 
set_option maxRecDepth 100000 in
set_option maxHeartbeats 4000000 in
theorem leaveH (w : World) (B g : Nat) (F : List Nat) (S : List Gm) (t : Int) (h : HI w B g F S) :
    Calls Try.prog 25 #[.pointer (some ⟨g, 0, none⟩), .int .u32 t] w (LeaveH B g F (leaveE S t) (leaveS S t) (leaveA S t) t w) := by
  have H := hid h
  obtain ⟨v, M, dz, hF, ho, hv, hD, rfl⟩ := h.ex
  have hlen : M.length ≤ 16 := by have := h.len; simpa using this
  have hR := (rise_ab dz M).1 h.rise
  obtain ⟨A, c, ev, -, -, -, hr, -, -⟩ := RdS.of_own hv (rws_one enc_one _)
  have HF := hid hF; have HO := hid ho; have HV := hid hv; have HD := hid hD; have HEV := hid ev
  have HR := hid hR
  have ho2 := ho
  rw [ev] at ho2
  clear h
  cases hh : has M t with
  | false =>
    have HE : Hid (leaveE (M.map (Mb.ab dz)) t = 7 ∧ leaveS (M.map (Mb.ab dz)) t = M.map (Mb.ab dz) ∧ leaveA (M.map (Mb.ab dz)) t = false) := hid (by
      have e : hasS (M.map (Mb.ab dz)) t = false := by rw [has_ab]; exact hh
      refine ⟨by unfold leaveE; rw [e]; rfl, by unfold leaveS; rw [e]; rfl, ?_⟩
      unfold hasS at e
      unfold leaveA
      cases hx : (M.map (Mb.ab dz))[spotS (M.map (Mb.ab dz)) t]? with
      | none => rfl
      | some a => rw [hx] at e; simp only at e ⊢; rw [e]; rfl)
    rw [HE.out.1, HE.out.2.1, HE.out.2.2]
    clear hF hv hD hR ev ho
    go_enter Try.func25, Try.ntmps25
    go_wp2_with fail
    refine (find1 w g A M M.length c t ho2 hr rfl HR.out (by omega)).mono ?_
    rintro x w2 ⟨rfl, o2⟩
    rw [hh]
    have O2 := hid o2; clear o2
    go_wp2_with fail
    go_ret2
    exact ⟨none, 0, 0, [], F, rfl, rfl, RdS.zero _ _ _, by simp, H.out.same O2.out⟩
  | true =>
    obtain ⟨hk, hg⟩ := has_at hh
    obtain ⟨i, hi⟩ : ∃ i, spot M t = i := ⟨_, rfl⟩
    have HSi := hid hi
    simp only [hi] at hk hg
    obtain ⟨mm, hmm⟩ : ∃ mm, M[i] = mm := ⟨_, rfl⟩
    have HM : Hid (M = M.take i ++ mm :: M.drop (i + 1)) := hid (by rw [← hmm, ← List.drop_eq_getElem_cons hk, List.take_append_drop])
    have HE : Hid (leaveE (M.map (Mb.ab dz)) t = 0 ∧ leaveS (M.map (Mb.ab dz)) t = (M.take i ++ M.drop (i + 1)).map (Mb.ab dz) ∧ leaveA (M.map (Mb.ab dz)) t = mm.o) := hid (by
      have e : hasS (M.map (Mb.ab dz)) t = true := by rw [has_ab]; exact hh
      refine ⟨by unfold leaveE; rw [e]; rfl, ?_, ?_⟩
      · unfold leaveS; rw [e, if_pos rfl, spot_ab, hi, List.map_append, List.map_take, List.map_drop]
      · unfold leaveA
        rw [spot_ab, hi, List.getElem?_map, List.getElem?_eq_getElem hk, hmm]
        simp only [Option.map, Mb.ab]
        rw [hmm] at hg
        rw [hg]; simp)
    have HKL := hid hk
    have hr2 := hr
    rw [HM.out] at hr2
    obtain ⟨gb, hgb⟩ : ∃ gb, A = some ⟨gb, 0, none⟩ := by
      rcases hv.2 with ⟨h9, h8⟩ | ⟨p, cap, cur, h9, _⟩
      · omega
      · rw [ev] at h9; injection h9 with h9; exact ⟨p, h9⟩
    subst hgb
    obtain ⟨_, _, c2⟩ := mid_cell (k := i) hr2 (by rw [← HM.out]) (by rw [List.length_take]; omega)
    obtain ⟨mg, mp, mo⟩ := mm
    have HC2 : Hid (w.cell? ⟨gb, i * 3 + 2, none⟩ = some (.bool mo)) := hid c2
    rw [HE.out.1, HE.out.2.1, HE.out.2.2]
    clear hF hv hD hR ev ho hr2 c2 hmm hg
    have hi16 : i < 16 := by omega
    go_enter Try.func25, Try.ntmps25
    go_wp2_with fail
    refine (find1 w g (some ⟨gb, 0, none⟩) M M.length c t ho2 hr rfl HR.out (by omega)).mono ?_
    rintro x w2 ⟨rfl, o2⟩
    rw [hh, hi]
    have O2 := hid o2; have HO2 := hid (HO.out.only o2 (by simp)); have HV2 := hid (own_only_nil HV.out o2)
    have k0 := (ho2.only o2 (by simp)).cell 0
    have k2 := o2.keep HC2.out
    have hil : (i : Int) < (M.length : Int) := by omega
    clear o2 hh hi hr ho2
    go_wp2_with fail
    clear k0 k2
    have hdl := delL w2 B v M i HV2.out HKL.out (by omega)
    rw [HEV.out] at hdl
    refine hdl.mono ?_
    rintro x w3 ⟨gb2, cap2, rfl, hv3, hbk, o3⟩
    rw [← HEV.out] at hbk o3
    have Q3 : Hid (Only v.ownBlock.toList w w3) := hid ((O2.out.more (by simp)).trans o3)
    have HV3 := hid hv3
    have HO3 := hid (HO2.out.only o3 (fun hm => ob_own HO.out HV.out (by decide) (by simpa using hm)))
    have HBK := hid hbk
    have kk := HO3.out.cell 0; have ff := HO3.out.frozen 0
    clear hv3 hbk o3
    obtain ⟨W4, hW4⟩ : ∃ W4, w3.setCell ⟨g, 0, none⟩ (.slice (some ⟨gb2, 0, none⟩) (M.length - 1) cap2) = W4 := ⟨_, rfl⟩
    have HST : Hid (∃ F', HStep w B g F W4 F' ((M.take i ++ M.drop (i + 1)).map (Mb.ab dz))) := hid (by
      have oS : Only [g] w3 W4 := by rw [← hW4]; exact (Only.refl [g] w3).setCell (p := ⟨g, 0, none⟩) (Or.inl (by simp)) _
      have hob : Ob W4 g 46 #[.slice (some ⟨gb2, 0, none⟩) (M.length - 1) cap2] := by rw [← hW4]; exact HO3.out.set 0 _
      have hll : (M.take i ++ M.drop (i + 1)).length = M.length - 1 := by rw [List.length_append, List.length_take, List.length_drop]; omega
      have hsubM : ∀ m ∈ M.take i ++ M.drop (i + 1), m ∈ M := fun m hm => by
        rcases List.mem_append.1 hm with hm | hm
        · exact List.mem_of_mem_take hm
        · exact List.mem_of_mem_drop hm
      have hsubF : ∀ k ∈ g :: ((Value.slice (some ⟨gb2, 0, none⟩) (M.length - 1) cap2).ownBlock.toList ++ (M.take i ++ M.drop (i + 1)).filterMap (·.p)), k ∈ F := fun k hk => by
        rw [HF.out]
        rcases List.mem_cons.1 hk with rfl | hk
        · simp
        · rcases List.mem_append.1 hk with hk | hk
          · refine List.mem_cons_of_mem _ (List.mem_append_left _ ?_)
            rw [HBK.out]; exact hk
          · obtain ⟨m, hm, hp⟩ := List.mem_filterMap.1 hk
            exact List.mem_cons_of_mem _ (List.mem_append_right _ (List.mem_filterMap.2 ⟨m, hsubM m hm, hp⟩))
      have hsubl : (M.take i ++ M.drop (i + 1)).Sublist M := by
        have h1 : (M.drop (i + 1)).Sublist (M.drop i) := by rw [← List.drop_drop]; exact List.drop_sublist _ _
        have h2 := (List.Sublist.refl (M.take i)).append h1
        rwa [List.take_append_drop] at h2
      have hown : W4.ownsRow B 77 3 (.slice (some ⟨gb2, 0, none⟩) (M.length - 1) cap2) (M.length - 1) (rws Mb.enc (M.take i ++ M.drop (i + 1))) := own_only HV3.out oS (fun j hj hm => by
        rw [show j = g from by simpa using hm] at hj
        exact ob_own HO3.out HV3.out (by decide) hj)
      refine ⟨_, ⟨⟨_, _, dz, rfl, hob, by rw [hll]; exact hown, fun m hm b hb => ?_, rfl⟩, ?_, ?_, fun k hk => H.out.low k (hsubF k hk)⟩, fun k hk => .inl (hsubF k hk), (Q3.out.more (fun k hk => by rw [HF.out]; exact List.mem_cons_of_mem _ (List.mem_append_left _ hk))).trans (oS.more (fun k hk => by rw [HF.out]; simp at hk; simp [hk]))⟩
      · have hd := HD.out m (hsubM m hm) b hb
        have h1 : b ∉ v.ownBlock.toList := fun hm2 => ob_own hd HV.out (by decide) (by simpa using hm2)
        exact (hd.only Q3.out h1).only oS (fun hm2 => ob_ne hd HO.out (by decide) (by simpa using hm2))
      · exact (H.out.rise).sublist (hsubl.map _)
      · have := H.out.len; rw [List.length_map] at this ⊢; omega)
    cases mo with
    | false =>
      go_wp2_with fail
      go_ret2
      obtain ⟨F', hs⟩ := HST.out
      exact ⟨none, 0, 0, [], F', rfl, rfl, RdS.zero _ _ _, by simp, hs⟩
    | true =>
      go_wp2_with fail
      go_ret2
      obtain ⟨F', hs⟩ := HST.out
      have oA := (Only.refl [] W4).alloc (.cells #[.int .i64 23, .int .i64 0, .int .u32 t] 25)
      have hsz : w.heap.size ≤ W4.heap.size := hs.only.size
      refine ⟨_, 1, 1, ibye t, F', rfl, rfl, ⟨rfl, fun u hu => ?_, fun _ => ⟨W4.heap.size, 0, rfl, by simp, fun j u hj => ?_⟩⟩, fun b off e => ?_, ⟨hs.hi.nil oA, hs.bk, hs.only.trans (oA.more (by simp))⟩⟩
      · simp only [ibye, List.mem_cons, List.not_mem_nil, or_false] at hu
        rcases hu with rfl | rfl | rfl <;> rfl
      · rw [Nat.zero_add, (Ob.new W4 25 _).cell]
        rw [← hj]; unfold ibye; simp
      · injection e with e; injection e with e; omega
end Go.Proofs.Ytodcjokafjdhdaa.igm
