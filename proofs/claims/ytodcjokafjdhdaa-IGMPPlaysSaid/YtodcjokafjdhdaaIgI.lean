/-
  Chapter 10 (igmp): Groups of the code; the document's Host, its Groups and delay, by a walk of each text. Conditions: none but those typed.
-/
import Derived.Test.YtodcjokafjdhdaaIgH
namespace Go.Proofs.Ytodcjokafjdhdaa.igm
set_option linter.unusedVariables false
set_option linter.unusedSimpArgs false
open Go.ChangeShapes Go.WideShapes Go.ChangeAt Go.RowKit Go.IntWalk Go.Lib
/-- A group's cell. -/
def adr (t : Int) : List Value := [.int .u32 t]
theorem adr_len (t : Int) : (adr t).length = 1 := rfl
theorem adr_one (t : Int) : ∀ u ∈ adr t, u.oneCell' = true := fun u hu => by
  simp only [adr, List.mem_cons, List.not_mem_nil, or_false] at hu
  subst hu; rfl
theorem elemA : ElemS Try.prog 53 23 (.int .u32 0) 1 4 := ⟨Try.underlying53, by kernel_rfl, by kernel_rfl, by decide⟩
theorem rdS_adr (w : World) (t : Int) : RdS (w.alloc (.cells #[.int .u32 t] 23)) (some ⟨w.heap.size, 0, none⟩) 1 1 (adr t) :=
  ⟨rfl, adr_one t, fun _ => ⟨w.heap.size, 0, rfl, by simp, fun j u hj => by
    rw [Nat.zero_add, (Ob.new w 23 _).cell]
    rw [← hj]
    unfold adr
    simp⟩⟩
def GroupsE (L : List Int) (w : World) (x : Ending) (w' : World) : Prop := ∃ v, x = .returned v ∧ w'.ownsRow w.heap.size 23 1 v L.length (rws adr L) ∧ Only [] w w'
theorem take_next {α : Type} (L : List α) (j : Nat) (h : j < L.length) : L.take (j + 1) = L.take j ++ [L[j]] := by
  rw [List.take_add_one, List.getElem?_eq_getElem h]; rfl
theorem grow_adr {w : World} {B : Nat} {v : Value} {L : List Int} {j : Nat} {t : Int} (h : w.ownsRow B 23 1 v (j + 1) (rws adr L ++ adr t)) (hL : L.length = j) : w.ownsRow B 23 1 v (L ++ [t]).length (rws adr (L ++ [t])) := by
  rw [List.length_append, hL, rws_app]
  simpa [rws] using h
set_option maxRecDepth 100000 in
set_option maxHeartbeats 4000000 in
theorem groupsH (w : World) (B g : Nat) (F : List Nat) (S : List Gm) (h : HI w B g F S) :
    Calls Try.prog 18 #[.pointer (some ⟨g, 0, none⟩)] w (GroupsE (S.map (·.g)) w) := by
  obtain ⟨v, M, dz, hF, ho, hv, hD, rfl⟩ := h.ex
  have hlen : M.length ≤ 16 := by have := h.len; simpa using this
  obtain ⟨A, c, ev, -, -, -, hr, -, -⟩ := RdS.of_own hv (rws_one enc_one _)
  subst ev
  obtain ⟨n, hn⟩ : ∃ n, M.length = n := ⟨_, rfl⟩
  have HN := hid hn
  rw [hn] at ho hr hlen
  have HR := hid hr; have HO := hid ho
  have HE : Hid ((M.map (Mb.ab dz)).map (·.g) = M.map (·.g)) := hid (by rw [List.map_map]; rfl)
  have k0 := ho.cell 0
  rw [HE.out]
  clear h hF ho hv hD hr hn
  go_enter Try.func18, Try.ntmps18
  go_wp2_with fail
  clear k0
  go_loopw [13, 3, 5] (fun i vo _ wr => ∃ (j : Nat) (u : Value), u = vo ∧ i = .int .i64 j ∧ j ≤ n ∧ Hid (wr.ownsRow w.heap.size 23 1 u j (rws adr ((M.take j).map (·.g)))) ∧ Hid (Only [] w wr)) (fun i _ _ _ => n - (RowKit.intOf i).toNat)
  case atStart => exact ⟨0, _, rfl, rfl, by omega, hid (World.ownsRow_nil _ _ _ _), hid (Only.refl _ _)⟩
  case round =>
    obtain ⟨j, u, rfl, rfl, hj, HU, HQ⟩ := hrel
    by_cases hjn : j < n
    · have hjl : j < M.length := by rw [HN.out]; exact hjn
      obtain ⟨b, off, rfl, -, hc1⟩ := (HR.out.only_nil HQ.out).elem HN.out enc_len (by omega) j hjl
      obtain ⟨y, hy⟩ : ∃ y, M[j] = y := ⟨_, rfl⟩
      rw [hy] at hc1
      have HTk : Hid (M.take (j + 1) = M.take j ++ [y]) := hid (by rw [take_next M j hjl, hy])
      have HTl : Hid (((M.take j).map (·.g)).length = j) := hid (by rw [List.length_map, List.length_take]; omega)
      obtain ⟨tg, yp, yo⟩ := y
      have d0 : wr.cell? ⟨b, off + j * 3, none⟩ = some (.int .u32 tg) := by have := hc1 0 _ rfl; rwa [Nat.add_zero] at this
      have d1 := hc1 1 _ rfl; have d2 := hc1 2 _ rfl
      obtain ⟨W4, hW4⟩ : ∃ W4, wr.alloc (.cells #[.int .u32 tg, .pointer (yp.map fun b => ⟨b, 0, none⟩), .bool yo] 77) = W4 := ⟨_, rfl⟩
      have OY : Hid (Ob W4 wr.heap.size 77 #[.int .u32 tg, .pointer (yp.map fun b => ⟨b, 0, none⟩), .bool yo]) := hid (by rw [← hW4]; exact Ob.new _ _ _)
      have o4 : Only [] wr W4 := by rw [← hW4]; exact (Only.refl [] wr).alloc _
      have q5 : Only [] W4 (W4.alloc (.cells #[.int .u32 tg] 23)) := (Only.refl [] W4).alloc _
      have QA := hid ((HQ.out.trans o4).trans q5)
      have HUA := hid (own_only_nil HU.out (o4.trans q5))
      have HOne := hid (rdS_adr W4 tg)
      have HSZ := hid QA.out.size
      have y0 := OY.out.cell 0
      clear hc1 hy o4 q5
      go_wp2_with (at_builtin; refine wpList_appS _ rfl (.tmp 17) (.tmp 20) _ rfl elemA w.heap.size u j (rws adr ((M.take j).map (·.g))) rfl HUA.out (some ⟨W4.heap.size, 0, none⟩) 1 1 (adr tg) rfl HOne.out (by intro e; cases e) (.inr ⟨_, _, rfl⟩) (by omega) (by unfold maxLen; omega) HSZ.out ?_)
      intro v7 w7 hv7 hg7 hb7
      have HU7 : Hid (w7.ownsRow w.heap.size 23 1 v7 (j + 1) (rws adr ((M.take (j + 1)).map (·.g)))) := hid (by
        rw [← List.map_take] at hv7
        have := grow_adr hv7 HTl.out
        rw [List.length_append, HTl.out] at this
        rw [HTk.out, List.map_append]
        exact this)
      have HQ7 : Hid (Only [] w w7) := hid (QA.out.of_grown hg7 (fun j hj => .inr (own_lt HUA.out j hj).1))
      clear hv7 hg7 hb7
      go_wp2_with fail
      go_roundw
      case rel => exact ⟨j + 1, v7, rfl, by first | rfl | go_num, by omega, HU7, HQ7⟩
      case measure => simp [RowKit.intOf]; omega
    · obtain rfl : j = n := by omega
      go_wp2_with fail
      go_ret
      refine ⟨u, rfl, ?_, HQ.out⟩
      have := HU.out
      rw [List.take_of_length_le (by rw [HN.out]; exact Nat.le_refl _)] at this
      rw [List.length_map, HN.out]
      exact this
/-- Hear of anything. -/
theorem hearH (w : World) (B g : Nat) (F : List Nat) (S : List Gm) (ty mx grp now draw : Int) (h : HI w B g F S) (hB : B ≤ w.heap.size) (hnow : -9223372036854775808 ≤ now ∧ now ≤ 9223372036854775807) (hdr : draw ≤ 9223372036854775807) :
    Calls Try.prog 24 #[.pointer (some ⟨g, 0, none⟩), .agg #[.int .i64 ty, .int .i64 mx, .int .u32 grp], .int .i64 now, .int .i64 draw] w (HearH B g F (hearS ty mx grp now draw S) w) := by
  unfold hearS
  split
  · next hb => exact hearN w B g F S ty mx grp now draw h (.inl hb)
  · next hb =>
    have hmx : 0 ≤ mx ∧ mx ≤ 255 := by unfold badM at hb; omega
    split
    · next ht =>
      subst ht
      refine (hearQ w B g F S mx grp _ now draw h hB hmx rfl hnow hdr).mono ?_
      intro x w' hx
      exact hx
    · next ht =>
      split
      · next ht2 => subst ht2; exact hearR w B g F S mx grp now draw h hmx
      · next ht2 => exact hearN w B g F S ty mx grp now draw h (.inr ⟨ht, ht2⟩)
/-- A member of the document's Host. -/
structure Dm where
  g : Int
  t : Bool
  at_ : Int
  o : Bool
def Dm.enc (m : Dm) : List Value := [.int .u32 m.g, .bool m.t, .int .i64 m.at_, .bool m.o]
def Dm.ab (m : Dm) : Gm := ⟨m.g, if m.t then some m.at_ else none, m.o⟩
theorem dnc_len (m : Dm) : m.enc.length = 4 := rfl
theorem dnc_one (m : Dm) : ∀ u ∈ m.enc, u.oneCell' = true := fun u hu => by
  simp only [Dm.enc, List.mem_cons, List.not_mem_nil, or_false] at hu
  rcases hu with rfl | rfl | rfl | rfl <;> rfl
/-- The document's Host. -/
structure DI (w : World) (B g : Nat) (v : Value) (D : List Dm) : Prop where
  ob : Ob w g 50 #[v]
  own : w.ownsRow B 83 4 v D.length (rws Dm.enc D)
theorem DI.only {S : List Nat} {w w' : World} {B g : Nat} {v : Value} {D : List Dm} (h : DI w B g v D) (o : Only S w w') (hg : g ∉ S) (hv : ∀ j, v.ownBlock = some j → j ∉ S) : DI w' B g v D := ⟨h.ob.only o hg, own_only h.own o hv⟩
theorem DI.nil {w w' : World} {B g : Nat} {v : Value} {D : List Dm} (h : DI w B g v D) (o : Only [] w w') : DI w' B g v D := h.only o (by simp) (by simp)
set_option maxRecDepth 100000 in
set_option maxHeartbeats 4000000 in
theorem groupsD (w : World) (B g : Nat) (v : Value) (D : List Dm) (h : DI w B g v D) (hb : D.length ≤ 16) :
    Calls Try.prog 21 #[.pointer (some ⟨g, 0, none⟩)] w (GroupsE (D.map (·.g)) w) := by
  obtain ⟨A, c, rfl, -, -, -, hr, -, -⟩ := RdS.of_own h.own (rws_one dnc_one _)
  obtain ⟨n, hn⟩ : ∃ n, D.length = n := ⟨_, rfl⟩
  have HN := hid hn
  have HO := hid h.ob
  rw [hn] at hr hb HO
  have HR := hid hr
  clear h hr hn
  go_enter Try.func21, Try.ntmps21
  go_wp2_with fail
  go_loopw [4, 3] (fun i vo wr => ∃ (j : Nat) (u : Value), u = vo ∧ i = .int .i64 j ∧ j ≤ n ∧ Hid (wr.ownsRow w.heap.size 23 1 u j (rws adr ((D.take j).map (·.g)))) ∧ Hid (Only [] w wr)) (fun i _ _ => n - (RowKit.intOf i).toNat)
  case atStart => exact ⟨0, _, rfl, rfl, by omega, hid (World.ownsRow_nil _ _ _ _), hid (Only.refl _ _)⟩
  case round =>
    obtain ⟨j, u, rfl, rfl, hj, HU, HQ⟩ := hrel
    have k0 := (HO.out.only HQ.out (by simp)).cell 0
    by_cases hjn : j < n
    · have hjl : j < D.length := by rw [HN.out]; exact hjn
      obtain ⟨b, off, rfl, -, hc1⟩ := (HR.out.only_nil HQ.out).elem HN.out dnc_len (by omega) j hjl
      obtain ⟨y, hy⟩ : ∃ y, D[j] = y := ⟨_, rfl⟩
      rw [hy] at hc1
      have HTk : Hid (D.take (j + 1) = D.take j ++ [y]) := hid (by rw [take_next D j hjl, hy])
      have HTl : Hid (((D.take j).map (·.g)).length = j) := hid (by rw [List.length_map, List.length_take]; omega)
      obtain ⟨tg, yt, ya, yo⟩ := y
      have d0 : wr.cell? ⟨b, off + j * 4, none⟩ = some (.int .u32 tg) := by have := hc1 0 _ rfl; rwa [Nat.add_zero] at this
      have q5 : Only [] wr (wr.alloc (.cells #[.int .u32 tg] 23)) := (Only.refl [] wr).alloc _
      have QA := hid (HQ.out.trans q5)
      have HUA := hid (own_only_nil HU.out q5)
      have HOne := hid (rdS_adr wr tg)
      have HSZ := hid QA.out.size
      clear hc1 hy q5
      go_wp2_with (at_builtin; refine wpList_appS _ rfl (.tmp 14) (.tmp 23) _ rfl elemA w.heap.size u j (rws adr ((D.take j).map (·.g))) rfl HUA.out (some ⟨wr.heap.size, 0, none⟩) 1 1 (adr tg) rfl HOne.out (by intro e; cases e) (.inr ⟨_, _, rfl⟩) (by omega) (by unfold maxLen; omega) HSZ.out ?_)
      intro v7 w7 hv7 hg7 hb7
      have HU7 : Hid (w7.ownsRow w.heap.size 23 1 v7 (j + 1) (rws adr ((D.take (j + 1)).map (·.g)))) := hid (by
        rw [← List.map_take] at hv7
        have := grow_adr hv7 HTl.out
        rw [List.length_append, HTl.out] at this
        rw [HTk.out, List.map_append]
        exact this)
      have HQ7 : Hid (Only [] w w7) := hid (QA.out.of_grown hg7 (fun j hj => .inr (own_lt HUA.out j hj).1))
      clear hv7 hg7 hb7
      go_wp2_with fail
      go_roundw
      case rel => exact ⟨j + 1, v7, rfl, by first | rfl | go_num, by omega, HU7, HQ7⟩
      case measure => simp [RowKit.intOf]; omega
    · obtain rfl : j = n := by omega
      go_wp2_with fail
      go_ret
      refine ⟨u, rfl, ?_, HQ.out⟩
      have := HU.out
      rw [List.take_of_length_le (by rw [HN.out]; exact Nat.le_refl _)] at this
      rw [List.length_map, HN.out]
      exact this
end Go.Proofs.Ytodcjokafjdhdaa.igm
