/-
  Chapter 21 (name): the law NameAnswers, by a walk of its text. Conditions: none but those typed.
-/
import Derived.Test.YtfoecnlbiaiibaaNamBf
import Derived.Test.YtfoecnlbiaiibaaNamHu
namespace Go.Proofs.Ytfoecnlbiaiibaa.nam
set_option linter.unusedVariables false
set_option linter.unusedSimpArgs false
open Go.ChangeShapes Go.WideShapes Go.ChangeAt Go.RowKit Go.IntWalk Go.Lib
/-- What an answer of the law is. -/
def keyN (i : Nat) : ByteArray × Int × Int × Int × List Int := (⟨#[97, 46, 98]⟩, 1, 1, (i : Int), [1, 2, 3, (i : Int)])
theorem nm_ab : isNm ⟨#[97, 46, 98]⟩ = true := by rw [isNm_eq]; decide +kernel
theorem nm_a : isNm ⟨#[97]⟩ = true := by rw [isNm_eq]; decide +kernel
/-- Records whose names and numbers may be written. -/
def Good (r : Rc) : Prop := isNm r.s = true ∧ inB r.ty r.cl r.ttl false ∧ r.ty ≠ 5 ∧ (r.ty = 1 → r.n = 4) ∧ r.n ≤ 65535
theorem good_ok {id : Int} {L : List Rc} (h0 : 0 ≤ id ∧ id ≤ 65535) (hl : L.length ≤ 64) (h : ∀ r ∈ L, Good r) : AllOK id 32768 [] L :=
  ⟨⟨h0, by omega, by simp, hl, (fun r hr => by cases hr), fun r hr => (h r hr).2.1⟩, ⟨(fun r hr => by cases hr), fun r hr => (h r hr).1⟩, fun r hr e => absurd e (h r hr).2.2.1, fun r hr => (h r hr).2.2.2.1, fun r hr => (h r hr).2.2.2.2⟩
theorem good_err {id e : Int} {L : List Rc} (h0 : 0 ≤ id ∧ id ≤ 65535) (h : ∀ r ∈ L, Good r) (he : Errs e id 32768 [] L) : (e = 1 ↔ 64 < L.length) ∧ (L.length ≤ 64 → e = 0) := by
  by_cases hl : L.length ≤ 64
  · have h1 := good_ok h0 hl h
    have h2 : e = 0 := he.one (.inr (.inr (.inr (.inr ⟨rfl, h1⟩))))
    exact ⟨⟨fun h3 => by omega, fun h3 => by omega⟩, fun _ => h2⟩
  · have h2 : e = 1 := he.one (.inl ⟨rfl, fun h3 => hl h3.2.2.2.1⟩)
    exact ⟨⟨fun _ => by omega, fun _ => h2⟩, fun h3 => absurd h3 hl⟩
theorem dat_of {w : World} {L : List Rc} (h : DBs w L) (hs : ∀ r ∈ L, r.s.size ≤ 140737488351232 ∧ r.n ≤ 65535) : DatR w L := fun r hr => by
  obtain ⟨A, c, e, h1, h2, h3, _⟩ := h r hr
  injection e with e1 e2 e3
  rw [e1, e2, e3]
  exact ⟨⟨h3, h2, by have := (hs r hr).2; omega, h1⟩, (hs r hr).1⟩
theorem key_good {L : List Rc} {N : Nat} (hN : N ≤ 64) (h : L.map Rc.key = (List.range N).map keyN) {w : World} (hd : DBs w L) : ∀ r ∈ L, Good r ∧ r.s.size ≤ 140737488351232 := fun r hr => by
  have h1 : r.key ∈ L.map Rc.key := List.mem_map_of_mem hr
  rw [h] at h1
  obtain ⟨i, hi, he⟩ := List.mem_map.1 h1
  have hi : i < N := by simpa using hi
  simp only [Rc.key, keyN, Prod.mk.injEq] at he
  obtain ⟨e1, e2, e3, e4, e5⟩ := he
  have hn : r.n = 4 := by
    obtain ⟨A, c, e, _, _, h3, _⟩ := hd r hr
    injection e with _ e6 _
    rw [e6, ← e5]; rfl
  refine ⟨⟨by rw [← e1]; exact nm_ab, ⟨by rw [← e2]; omega, by rw [← e3]; omega, fun _ => by rw [← e4]; omega⟩, by rw [← e2]; omega, fun _ => hn, by omega⟩, by rw [← e1]; decide⟩
set_option maxRecDepth 100000 in
set_option maxHeartbeats 16000000 in
theorem answers1 (w : World) (n id : Int) :
    Calls Try.prog 9 #[.int .i64 n, .int .i64 id] w fun x w' => x = .returned (.bool true) ∧ Only [] w w' := by
  by_cases h1 : n < 0
  case pos =>
    go_enter Try.func9, Try.ntmps9
    go_wp2_with fail
    refine (known21 _).mono ?_
    rintro x w9 ⟨rfl, o9⟩
    have Q9 := hid ((Only.refl [] w).trans o9); clear o9
    go_wp2_with fail
    go_ret
    exact ⟨rfl, Q9.out⟩
  by_cases h2 : 64 < n
  case pos =>
    go_enter Try.func9, Try.ntmps9
    go_wp2_with fail
    refine (known21 _).mono ?_
    rintro x w9 ⟨rfl, o9⟩
    have Q9 := hid ((Only.refl [] w).trans o9); clear o9
    go_wp2_with fail
    go_ret
    exact ⟨rfl, Q9.out⟩
  by_cases h3 : id < 0
  case pos =>
    go_enter Try.func9, Try.ntmps9
    go_wp2_with fail
    refine (known21 _).mono ?_
    rintro x w9 ⟨rfl, o9⟩
    have Q9 := hid ((Only.refl [] w).trans o9); clear o9
    go_wp2_with fail
    go_ret
    exact ⟨rfl, Q9.out⟩
  by_cases h4 : 65535 < id
  case pos =>
    go_enter Try.func9, Try.ntmps9
    go_wp2_with fail
    refine (known21 _).mono ?_
    rintro x w9 ⟨rfl, o9⟩
    have Q9 := hid ((Only.refl [] w).trans o9); clear o9
    go_wp2_with fail
    go_ret
    exact ⟨rfl, Q9.out⟩
  obtain ⟨N, rfl⟩ : ∃ N : Nat, n = (N : Int) := ⟨n.toNat, by omega⟩
  have hN : N ≤ 64 := by omega
  have HID : Hid (0 ≤ id ∧ id ≤ 65535) := hid (by omega)
  have OM0 : Hid (Ob (w.alloc (.cells #[.int .i64 id, .int .i64 32768, .slice none 0 0, .slice none 0 0] 39)) w.heap.size 39 #[.int .i64 id, .int .i64 32768, .slice none 0 0, .slice none 0 0]) := hid (Ob.new _ _ _)
  have QM0 : Hid (Only [] w (w.alloc (.cells #[.int .i64 id, .int .i64 32768, .slice none 0 0, .slice none 0 0] 39))) := hid ((Only.refl [] w).alloc _)
  go_enter Try.func9, Try.ntmps9
  go_wp2_with fail
  clear h1 h2 h3 h4
  obtain ⟨B0, hB0⟩ : ∃ B0, w.heap.size + 1 = B0 := ⟨_, rfl⟩
  have HB0 := hid hB0
  have hw0 : w.heap.size < B0 := by omega
  clear hB0
  go_loopw [6] (fun i wr => ∃ (k : Nat) (v : Value) (L : List Rc), i = .int .i64 k ∧ k ≤ N ∧ Hid (Ob wr w.heap.size 39 #[.int .i64 id, .int .i64 32768, .slice none 0 0, v]) ∧ Hid (wr.ownsRow B0 46 5 v k (rcs L)) ∧ Hid (L.map Rc.key = (List.range k).map keyN) ∧ Hid (DBs wr L) ∧ Hid (Only [] w wr)) (fun i _ => N - (RowKit.intOf i).toNat)
  case atStart => exact ⟨0, .slice none 0 0, [], rfl, by omega, OM0, hid (World.ownsRow_nil _ _ _ _), hid rfl, hid (fun r hr => absurd hr (by simp)), QM0⟩
  case round =>
    clear OM0 QM0
    obtain ⟨k, v, L, rfl, hk, HM, HV, HK, HD, HQ⟩ := hrel
    by_cases hlt : k < N
    · have m3 := HM.out.cell 3
      have hu : IntKind.u8.wrap (k : Int) = (k : Int) := by rw [IntKind.wrap_u8]; omega
      have hsz := HQ.out.size
      have hmlt := HM.out.lt
      have hb0 : B0 ≤ wr.heap.size := by have := HB0.out; omega
      have q2 : Hid (Only [] wr ((wr.alloc (.cells #[.int .u8 1, .int .u8 2, .int .u8 3, .int .u8 (k : Int)] 5)).alloc (.cells #[.string ⟨#[97, 46, 98]⟩, .int .i64 1, .int .i64 1, .int .i64 (k : Int), .slice (some ⟨wr.heap.size, 0, none⟩) 4 4] 46))) := hid (((Only.refl [] wr).alloc _).alloc _)
      have HVa := hid (own_only_nil HV.out q2.out)
      have HMa := hid (HM.out.only q2.out (by simp))
      have HBy : Hid (Own .u8 5 (wr.alloc (.cells #[.int .u8 1, .int .u8 2, .int .u8 3, .int .u8 (k : Int)] 5)) wr.heap.size (.slice (some ⟨wr.heap.size, 0, none⟩) 4 4) [1, 2, 3, (k : Int)]) := hid (Own.lit .u8 5 wr wr.heap.size [1, 2, 3, (k : Int)] _ 4 rfl rfl (Nat.le_refl _) (by show 4 ≤ maxLen; unfold maxLen; omega) (by
        intro z hz
        apply (Lit.wf_int_iff .u8 z).2
        show 0 ≤ z ∧ z ≤ 255
        simp only [List.mem_cons, List.not_mem_nil, or_false] at hz
        omega))
      have HBd : Hid (DB ((wr.alloc (.cells #[.int .u8 1, .int .u8 2, .int .u8 3, .int .u8 (k : Int)] 5)).alloc (.cells #[.string ⟨#[97, 46, 98]⟩, .int .i64 1, .int .i64 1, .int .i64 (k : Int), .slice (some ⟨wr.heap.size, 0, none⟩) 4 4] 46)) (.slice (some ⟨wr.heap.size, 0, none⟩) 4 4) [1, 2, 3, (k : Int)]) := hid ((DB.of_own HBy.out).keep (K8.of_nil ((Only.refl [] _).alloc _)))
      have HOne : Hid (RdS ((wr.alloc (.cells #[.int .u8 1, .int .u8 2, .int .u8 3, .int .u8 (k : Int)] 5)).alloc (.cells #[.string ⟨#[97, 46, 98]⟩, .int .i64 1, .int .i64 1, .int .i64 (k : Int), .slice (some ⟨wr.heap.size, 0, none⟩) 4 4] 46)) (some ⟨wr.heap.size + 1, 0, none⟩) 1 5 (Rc.cs (⟨⟨#[97, 46, 98]⟩, 1, 1, (k : Int), some ⟨wr.heap.size, 0, none⟩, 4, 4, [1, 2, 3, (k : Int)]⟩ : Rc))) := hid (by simpa using rdS_rec (wr.alloc (.cells #[.int .u8 1, .int .u8 2, .int .u8 3, .int .u8 (k : Int)] 5)) (⟨⟨#[97, 46, 98]⟩, 1, 1, (k : Int), some ⟨wr.heap.size, 0, none⟩, 4, 4, [1, 2, 3, (k : Int)]⟩ : Rc))
      clear HBy
      go_wp2_with (at_builtin; refine wpList_appS0 _ rfl (.tmp 37) (.tmp 43) _ rfl elemRec B0 v k (rcs L) rfl HVa.out (some ⟨wr.heap.size + 1, 0, none⟩) 1 1 (Rc.cs (⟨⟨#[97, 46, 98]⟩, 1, 1, (k : Int), some ⟨wr.heap.size, 0, none⟩, 4, 4, [1, 2, 3, (k : Int)]⟩ : Rc)) rfl HOne.out (by intro e; cases e) (by omega) (by unfold maxLen; omega) (by simp; omega) ?_)
      intro v6 w6 hv6 hg6 hb6
      have hv6b : w6.ownsRow B0 46 5 v6 (k + 1) (rcs (L ++ [(⟨⟨#[97, 46, 98]⟩, 1, 1, (k : Int), some ⟨wr.heap.size, 0, none⟩, 4, 4, [1, 2, 3, (k : Int)]⟩ : Rc)])) := by rw [rcs_app]; simpa [rcs] using hv6
      have hnm : v.ownBlock ≠ some w.heap.size := fun e => by have := (own_lt HVa.out _ e).1; omega
      have HM6 := hid (show Ob w6 w.heap.size 39 #[.int .i64 id, .int .i64 32768, .slice none 0 0, v] from (hg6.block _ HMa.out.lt (fun e => hnm e.symm)).trans HMa.out)
      have K6 : K8 ((wr.alloc (.cells #[.int .u8 1, .int .u8 2, .int .u8 3, .int .u8 (k : Int)] 5)).alloc (.cells #[.string ⟨#[97, 46, 98]⟩, .int .i64 1, .int .i64 1, .int .i64 (k : Int), .slice (some ⟨wr.heap.size, 0, none⟩) 4 4] 46)) w6 := K8.of_grown HVa.out (by decide) hg6
      have HD6 := hid (DBs.add HD.out ((K8.of_nil q2.out).trans K6) (r := (⟨⟨#[97, 46, 98]⟩, 1, 1, (k : Int), some ⟨wr.heap.size, 0, none⟩, 4, 4, [1, 2, 3, (k : Int)]⟩ : Rc)) (HBd.out.keep K6))
      have HQ6 : Hid (Only [] w w6) := hid ((HQ.out.trans q2.out).of_grown hg6 (fun i hi => .inr (by have := (own_lt HVa.out i hi).1; omega)))
      obtain ⟨A9, c9, ev6, _, _, _, _, _, _⟩ := RdS.of_own hv6b (rcs_one _)
      subst ev6
      have HV6 := hid hv6b
      have m3b := HM6.out.cell 3; have f3b := HM6.out.frozen 3
      clear hv6 hv6b hg6 hb6 hnm K6 q2 HVa HMa HBd HOne m3 HM HV HD HQ hu
      go_wp2_with fail
      have q7 : Only [w.heap.size] w6 (w6.setCell ⟨w.heap.size, 3, none⟩ (.slice A9 (k + 1) c9)) := (Only.refl _ w6).setCell (Or.inl (by simp)) _
      have HM7 := hid (HM6.out.set 3 (.slice A9 (k + 1) c9))
      have HV7 := hid (own_only HV6.out q7 (fun i hi hm => by have h1 := (own_lt HV6.out i hi).1; simp at hm; omega))
      have HD7 := hid (HD6.out.keep (K8.of_one q7 HM6.out (by decide)))
      have HQ7 : Hid (Only [] w (w6.setCell ⟨w.heap.size, 3, none⟩ (.slice A9 (k + 1) c9))) := hid (HQ6.out.setCell (p := ⟨w.heap.size, 3, none⟩) (Or.inr (Nat.le_refl _)) _)
      clear m3b f3b q7
      go_roundw
      case rel => exact ⟨k + 1, _, L ++ [(⟨⟨#[97, 46, 98]⟩, 1, 1, (k : Int), some ⟨wr.heap.size, 0, none⟩, 4, 4, [1, 2, 3, (k : Int)]⟩ : Rc)], by first | rfl | go_num, by omega, HM7, HV7, hid (by rw [List.map_append, HK.out, List.range_succ, List.map_append]; rfl), HD7, HQ7⟩
      case measure => simp [RowKit.intOf]; omega
    · have HkN : Hid (k = N) := hid (by omega)
      have HVN : Hid (wr.ownsRow B0 46 5 v N (rcs L)) := hid (by have h9 := HV.out; rw [HkN.out] at h9; exact h9)
      have HKN : Hid (L.map Rc.key = (List.range N).map keyN) := hid (by rw [HK.out, HkN.out])
      have HLl : Hid (L.length = N) := hid (by have h9 := congrArg List.length HKN.out; simpa using h9)
      have HGd := hid (key_good hN HKN.out HD.out)
      obtain ⟨A2, c2, ev2, hnc2, _, hz2, hrd2, hblk2, hf2⟩ := RdS.of_own HVN.out (rcs_one _)
      subst ev2
      obtain ⟨wz, hwz⟩ : ∃ wz, wz = wr := ⟨_, rfl⟩
      subst hwz
      have RL : Hid (RowR wz A2 L) := hid (by unfold RowR; rw [HLl.out]; exact hrd2)
      have HZ2 := hid hz2
      have DL : Hid (DatR wz L) := hid (dat_of HD.out (fun r hr => ⟨(HGd.out r hr).2, (HGd.out r hr).1.2.2.2.2⟩))
      have HMz := HM; have HDz := HD; have HQz := HQ
      have m0 := HM.out.cell 0; have m1 := HM.out.cell 1; have m2 := HM.out.cell 2; have m3 := HM.out.cell 3
      clear HV HK HM HD HQ hnc2 hz2 hrd2 hblk2 hf2
      go_wp2_with fail
      clear hlt hk m0 m1 m2 m3
      refine (encodeL wz id 32768 none A2 0 N 0 c2 [] L rfl HLl.out (RdS.zero _ _ _) RL.out (fun r hr => absurd hr (by simp)) DL.out (fun _ => rfl) HZ2.out (by omega)).mono ?_
      rintro x w2 ⟨v2, e2, rfl, he2, hv2, o2⟩
      have HOK : Hid (AllOK id 32768 [] L) := hid (good_ok HID.out (by rw [HLl.out]; exact hN) (fun r hr => (HGd.out r hr).1))
      obtain rfl : e2 = 0 := (good_err HID.out (fun r hr => (HGd.out r hr).1) he2).2 (by rw [HLl.out]; exact hN)
      rw [if_pos rfl] at hv2
      have V2 := hid hv2
      have Q2 := hid o2
      have HPu : Hid (PureR L) := hid (fun r hr => ⟨(DL.out r hr).1.1.len, rd_bd (DL.out r hr).1.1⟩)
      have HLn : Hid ((encB id 32768 [] L).length ≤ 100000000 ∧ 12 ≤ (encB id 32768 [] L).length) := hid (by
        have a2 := answ_size DL.out HOK.out.2.2.2.2 L.length
        rw [List.take_length, HLl.out] at a2
        unfold encB heads answ
        rw [List.length_append, List.length_append]
        show 12 + 0 + _ ≤ _ ∧ 12 ≤ 12 + 0 + _
        omega)
      obtain ⟨A4, c4, ev4, hnc4, hcm4, hrd4, _⟩ := hv2.slice
      obtain ⟨b4, off4, e4, _⟩ := hrd4.cells (by have := HLn.out; omega)
      subst ev4 e4
      have HR4 := hid hrd4; have HC4 := hid hcm4
      obtain ⟨nB, hnB⟩ : ∃ nB, (encB id 32768 [] L).length = nB := ⟨_, rfl⟩
      rw [hnB] at HR4 hnc4 HLn
      rw [hnB]
      have hnB2 : nB ≤ 1000000000 := by have := HLn.out; omega
      clear hv2 o2 he2 hrd4 hcm4 hnB
      go_wp2_with fail
      refine (decodeL w2 b4 off4 nB c4 (encB id 32768 [] L) [] HR4.out hnc4 HC4.out hnB2 id 32768 [] L 0 N rfl HLl.out HOK.out HPu.out (by rw [List.append_nil])).mono ?_
      rintro x w5 ⟨D1q, D2a, cq, ca, LQ, LA, rfl, rq, ra, kq, ka, dq, da, o5, fq, fa⟩
      have hla : LA.length = N := by have h9 := congrArg List.length ka; rw [List.length_map, List.length_map, HLl.out] at h9; exact h9
      have RA := hid ra; have KA := hid ka; have DA := hid da
      have HLA := hid hla
      have Q5 := hid (Q2.out.trans o5)
      have lqn : LQ.length = 0 := by have h9 := congrArg List.length kq; simpa using h9
      rw [hla, lqn]
      clear rq ra kq ka dq da o5 fq fa hla lqn
      have q9 : Only [] w5 (w5.alloc (.cells #[.int .i64 id, .int .i64 32768, .slice D1q 0 cq, .slice D2a N ca] 39)) := (Only.refl [] w5).alloc _
      have M9 : Hid (Ob (w5.alloc (.cells #[.int .i64 id, .int .i64 32768, .slice D1q 0 cq, .slice D2a N ca] 39)) w5.heap.size 39 #[.int .i64 id, .int .i64 32768, .slice D1q 0 cq, .slice D2a N ca]) := hid (Ob.new _ _ _)
      have Q9 : Hid (Only [] wz (w5.alloc (.cells #[.int .i64 id, .int .i64 32768, .slice D1q 0 cq, .slice D2a N ca] 39))) := hid (Q5.out.trans q9)
      have RA9 := hid (RowR.only_nil RA.out q9)
      have DA9 := hid (RdL.only_nil (RdL.of_dbs DA.out) q9)
      have m0 := M9.out.cell 0; have m3 := M9.out.cell 3
      clear q9
      go_wp2_with fail
      clear m0 m3
      generalize hW9 : w5.alloc (.cells #[.int .i64 id, .int .i64 32768, .slice D1q 0 cq, .slice D2a N ca] 39) = W9 at *
      clear hW9
      go_loopw [11] (fun i wr => ∃ k : Nat, i = .int .i64 k ∧ k ≤ N ∧ Hid (wr = W9)) (fun i _ => N - (RowKit.intOf i).toNat)
      case atStart => exact ⟨0, rfl, by omega, hid rfl⟩
      case round =>
        obtain ⟨k, rfl, hk, HW⟩ := hrel
        obtain rfl := HW.out
        clear HW
        have m3 := M9.out.cell 3
        by_cases hlt : k < N
        · have hky := key_at KA.out k (by rw [HLA.out]; exact hlt)
          have hk2 : (L.getD k rc0).key = keyN k := by
            have h1 := congrArg (fun l => l[k]?) HKN.out
            simp only [List.getElem?_map] at h1
            rw [List.getElem?_eq_getElem (by rw [HLl.out]; exact hlt), List.getElem?_eq_getElem (by simpa using hlt)] at h1
            simp only [Option.map_some, Option.some.injEq, List.getElem_range] at h1
            rw [List.getD_eq_getElem?_getD, List.getElem?_eq_getElem (by rw [HLl.out]; exact hlt)]
            exact h1
          rw [hk2] at hky
          obtain ⟨b, off, rfl, hb, d0, d1, d2, d3, d4⟩ := RA9.out.at k (by rw [HLA.out]; exact hlt)
          have HRd := DA9.out _ (rc_mem LA k (by rw [HLA.out]; exact hlt))
          generalize LA.getD k rc0 = r at *
          obtain ⟨s, ty, cl, ttl, xA, xn, xc, d⟩ := r
          simp only [Rc.key, keyN, Prod.mk.injEq] at hky
          obtain ⟨rfl, rfl, rfl, rfl, rfl⟩ := hky
          simp only at d0 d1 d2 d3 d4 HRd
          obtain rfl : xn = 4 := HRd.len.symm
          obtain ⟨b', off', rfl, hcc⟩ := HRd.cells (by omega)
          have u3 : wr.cell? ⟨b', off' + 3, none⟩ = some (.int .u8 (k : Int)) := hcc 3 (by omega)
          have hu : IntKind.u8.wrap (k : Int) = (k : Int) := by rw [IntKind.wrap_u8]; omega
          clear hcc HRd hk2
          go_wp2_with fail
          go_roundw
          case rel => exact ⟨k + 1, by first | rfl | go_num, by omega, hid (by first | rfl | trivial)⟩
          case measure => simp [RowKit.intOf]; omega
        · clear RA9 DA9 RA KA DA M9
          have HM1 := hid (HMz.out.only Q9.out (by simp))
          have HV1 := hid (own_only_nil HVN.out Q9.out)
          have HD1 := hid (HDz.out.keep (K8.of_nil Q9.out))
          have HQ1 : Hid (Only [] w wr) := hid (HQz.out.trans Q9.out)
          have HR1 : Hid (RdS wr A2 N 5 (rcs L)) := hid (by have h9 := RL.out.only_nil Q9.out; unfold RowR at h9; rwa [HLl.out] at h9)
          have hb1 : B0 ≤ wr.heap.size := by have := HM1.out.lt; have := HB0.out; omega
          have m3 := HM1.out.cell 3
          clear Q9 Q5 Q2 V2 HMz HVN HDz HQz RL DL HR4 HC4 HLn hnB2 hnc4 HPu HOK
          go_wp2_with (at_builtin; refine wpList_appS0 _ rfl (.tmp 112) (.tmp 114) _ rfl elemRec B0 _ N (rcs L) rfl HV1.out A2 N c2 (rcs L) rfl HR1.out HZ2.out (by omega) (by unfold maxLen; omega) hb1 ?_)
          intro v6 w6 hv6 hg6 hb6
          obtain ⟨n8, hn8⟩ : ∃ n8, N + N = n8 := ⟨_, rfl⟩
          have HN8 := hid hn8
          have hv6b : w6.ownsRow B0 46 5 v6 n8 (rcs (L ++ L)) := by rw [rcs_app, ← hn8]; exact hv6
          have hnm : (Value.slice A2 N c2).ownBlock ≠ some w.heap.size := fun e => by have := (own_lt HV1.out _ e).1; omega
          have HM6 := hid (show Ob w6 w.heap.size 39 #[.int .i64 id, .int .i64 32768, .slice none 0 0, .slice A2 N c2] from (hg6.block _ HM1.out.lt (fun e => hnm e.symm)).trans HM1.out)
          have K6 : K8 wr w6 := K8.of_grown HV1.out (by decide) hg6
          have HD6 : Hid (DBs w6 (L ++ L)) := hid (fun r hr => by
            rcases List.mem_append.1 hr with h | h
            · exact (HD1.out r h).keep K6
            · exact (HD1.out r h).keep K6)
          have HQ6 : Hid (Only [] w w6) := hid (HQ1.out.of_grown hg6 (fun i hi => .inr (by have := (own_lt HV1.out i hi).1; omega)))
          have hb6s : B0 ≤ w6.heap.size := Nat.le_trans hb1 hg6.size
          obtain ⟨A6, c6, ev6, _, _, _, _, _, _⟩ := RdS.of_own hv6b (rcs_one _)
          subst ev6
          have HV6 := hid hv6b
          have m3b := HM6.out.cell 3; have f3b := HM6.out.frozen 3
          have q7 : Only [w.heap.size] w6 (w6.setCell ⟨w.heap.size, 3, none⟩ (.slice A6 n8 c6)) := (Only.refl _ w6).setCell (Or.inl (by simp)) _
          have HM7 : Hid (Ob (w6.setCell ⟨w.heap.size, 3, none⟩ (.slice A6 n8 c6)) w.heap.size 39 #[.int .i64 id, .int .i64 32768, .slice none 0 0, .slice A6 n8 c6]) := hid (HM6.out.set 3 (.slice A6 n8 c6))
          have HV7 := hid (own_only HV6.out q7 (fun i hi hm => by have h1 := (own_lt HV6.out i hi).1; simp at hm; omega))
          have HD7 := hid (HD6.out.keep (K8.of_one q7 HM6.out (by decide)))
          have HQ7 : Hid (Only [] w (w6.setCell ⟨w.heap.size, 3, none⟩ (.slice A6 n8 c6))) := hid (HQ6.out.setCell (p := ⟨w.heap.size, 3, none⟩) (Or.inr (Nat.le_refl _)) _)
          have hb7 : B0 ≤ (w6.setCell ⟨w.heap.size, 3, none⟩ (.slice A6 n8 c6)).heap.size := Nat.le_trans hb6s q7.size
          obtain ⟨w7, hw7⟩ : ∃ w7, w6.setCell ⟨w.heap.size, 3, none⟩ (.slice A6 n8 c6) = w7 := ⟨_, rfl⟩
          rw [hw7] at HM7 HV7 HD7 HQ7 hb7
          have n3 := HM7.out.cell 3
          have q8 : Only [] w7 (w7.alloc (.cells #[.string ⟨#[97]⟩, .int .i64 16, .int .i64 1, .int .i64 0, .slice none 0 0] 46)) := (Only.refl [] w7).alloc _
          have HOne : Hid (RdS (w7.alloc (.cells #[.string ⟨#[97]⟩, .int .i64 16, .int .i64 1, .int .i64 0, .slice none 0 0] 46)) (some ⟨w7.heap.size, 0, none⟩) 1 5 (Rc.cs (⟨⟨#[97]⟩, 16, 1, 0, none, 0, 0, []⟩ : Rc))) := hid (rdS_rec w7 (⟨⟨#[97]⟩, 16, 1, 0, none, 0, 0, []⟩ : Rc))
          have HV8 := hid (own_only_nil HV7.out q8)
          have n3b := (HM7.out.only q8 (by simp)).cell 3
          clear hv6 hv6b hg6 hb6 hnm K6 HV6 HD6 HQ6 q7 HM6 HM1 HV1 HD1 HQ1 HR1 m3 hb1 hb6s hn8
          go_wp2_with (at_builtin; refine wpList_appS0 _ rfl (.tmp 118) (.tmp 120) _ rfl elemRec B0 _ n8 (rcs (L ++ L)) rfl HV8.out (some ⟨w7.heap.size, 0, none⟩) 1 1 (Rc.cs (⟨⟨#[97]⟩, 16, 1, 0, none, 0, 0, []⟩ : Rc)) rfl HOne.out (by intro e; cases e) (by have := HN8.out; omega) (by have := HN8.out; unfold maxLen; omega) (by simp; omega) ?_)
          intro v9 w9 hv9 hg9 hb9
          obtain ⟨n9, hn9⟩ : ∃ n9, n8 + 1 = n9 := ⟨_, rfl⟩
          have HN9 := hid hn9
          obtain ⟨L9, hL9⟩ : ∃ L9, L ++ L ++ [(⟨⟨#[97]⟩, 16, 1, 0, none, 0, 0, []⟩ : Rc)] = L9 := ⟨_, rfl⟩
          have HL9 := hid hL9
          have hv9b : w9.ownsRow B0 46 5 v9 n9 (rcs L9) := by rw [← hL9, rcs_app, ← hn9]; simpa [rcs] using hv9
          have hnm : (Value.slice A6 n8 c6).ownBlock ≠ some w.heap.size := fun e => by have := (own_lt HV8.out _ e).1; omega
          have HM9 := hid (show Ob w9 w.heap.size 39 #[.int .i64 id, .int .i64 32768, .slice none 0 0, .slice A6 n8 c6] from (hg9.block _ (HM7.out.only q8 (by simp)).lt (fun e => hnm e.symm)).trans (HM7.out.only q8 (by simp)))
          have K9 : K8 w7 w9 := (K8.of_nil q8).trans (K8.of_grown HV8.out (by decide) hg9)
          have HD9 : Hid (DBs w9 L9) := hid (by rw [← hL9]; exact DBs.add HD7.out K9 (r := (⟨⟨#[97]⟩, 16, 1, 0, none, 0, 0, []⟩ : Rc)) (DB.nil w9))
          have HQ9 : Hid (Only [] w w9) := hid ((HQ7.out.trans q8).of_grown hg9 (fun i hi => .inr (by have := (own_lt HV8.out i hi).1; omega)))
          obtain ⟨A9, c9, ev9, _, _, hz9, hrd9, hblk9, _⟩ := RdS.of_own hv9b (rcs_one _)
          subst ev9
          have HV9 := hid hv9b; have HZ9 := hid hz9
          have m3c := HM9.out.cell 3; have f3c := HM9.out.frozen 3
          have q10 : Only [w.heap.size] w9 (w9.setCell ⟨w.heap.size, 3, none⟩ (.slice A9 n9 c9)) := (Only.refl _ w9).setCell (Or.inl (by simp)) _
          have HM10 : Hid (Ob (w9.setCell ⟨w.heap.size, 3, none⟩ (.slice A9 n9 c9)) w.heap.size 39 #[.int .i64 id, .int .i64 32768, .slice none 0 0, .slice A9 n9 c9]) := hid (HM9.out.set 3 (.slice A9 n9 c9))
          have HD10 := hid (HD9.out.keep (K8.of_one q10 HM9.out (by decide)))
          have HQ10 : Hid (Only [] w (w9.setCell ⟨w.heap.size, 3, none⟩ (.slice A9 n9 c9))) := hid (HQ9.out.setCell (p := ⟨w.heap.size, 3, none⟩) (Or.inr (Nat.le_refl _)) _)
          have HLn9 : Hid (L9.length = n9) := hid (by rw [← hL9, ← hn9, ← HN8.out, List.length_append, List.length_append, HLl.out]; rfl)
          have HR10 : Hid (RowR (w9.setCell ⟨w.heap.size, 3, none⟩ (.slice A9 n9 c9)) A9 L9) := hid (by
            unfold RowR
            rw [HLn9.out]
            exact RdS.only hrd9 q10 (fun b off e _ hm => by have h1 := (own_lt HV9.out b (hblk9 b off e).2).1; simp at hm; omega))
          have HGd9 : Hid (∀ r ∈ L9, Good r ∧ r.s.size ≤ 140737488351232) := hid (by
            rw [← hL9]
            intro r hr
            rcases List.mem_append.1 hr with h | h
            · rcases List.mem_append.1 h with h | h
              · exact HGd.out r h
              · exact HGd.out r h
            · rw [show r = (⟨⟨#[97]⟩, 16, 1, 0, none, 0, 0, []⟩ : Rc) from by simpa using h]
              exact ⟨⟨nm_a, ⟨by decide, by decide, fun _ => by decide⟩, by decide, fun h => absurd h (by decide), by decide⟩, by decide⟩)
          obtain ⟨w10, hw10⟩ : ∃ w10, w9.setCell ⟨w.heap.size, 3, none⟩ (.slice A9 n9 c9) = w10 := ⟨_, rfl⟩
          rw [hw10] at HM10 HD10 HQ10 HR10
          have DL9 : Hid (DatR w10 L9) := hid (dat_of HD10.out (fun r hr => ⟨(HGd9.out r hr).2, (HGd9.out r hr).1.2.2.2.2⟩))
          have h9n : n9 ≤ 129 := by have := HN8.out; omega
          have m0 := HM10.out.cell 0; have m1 := HM10.out.cell 1; have m2 := HM10.out.cell 2; have m3 := HM10.out.cell 3
          clear hv9 hv9b hg9 hb9 hnm K9 HV8 HV7 HD9 HQ9 q10 HM9 HM7 HD7 HQ7 hrd9 hblk9 hz9 HV9 HOne q8 n3 n3b hn9 hL9
          go_wp2_with fail
          clear hw7 hw10 m3b f3b m3c f3c
          refine (encodeL w10 id 32768 none A9 0 n9 0 c9 [] L9 rfl HLn9.out (RdS.zero _ _ _) HR10.out (fun r hr => absurd hr (by simp)) DL9.out (fun _ => rfl) HZ9.out (by omega)).mono ?_
          rintro x w11 ⟨v11, e11, rfl, he11, hv11, o11⟩
          have HQ11 := hid (HQ10.out.trans o11)
          have n3 := (HM10.out.only o11 (by simp)).cell 3
          obtain ⟨hg1, hg2⟩ := good_err HID.out (fun r hr => (HGd9.out r hr).1) he11
          rw [HLn9.out] at hg1 hg2
          clear he11 hv11 o11 m0 m1 m2 m3
          by_cases hbig : 64 < n9
          · obtain rfl : e11 = 1 := hg1.2 hbig
            have hbz : (64 : Int) < (n9 : Int) := by omega
            clear hg1 hg2
            go_wp2_with fail
            refine (known21 _).mono ?_
            rintro x w9 ⟨rfl, o9⟩
            have Q9 := hid (HQ11.out.trans o9); clear o9
            go_wp2_with fail
            go_ret
            exact ⟨rfl, Q9.out⟩
          · obtain rfl : e11 = 0 := hg2 (by omega)
            have hbz : ¬ (64 : Int) < (n9 : Int) := by omega
            have hbd : decide ((64 : Int) < (n9 : Int)) = false := decide_eq_false hbz
            clear hg1 hg2
            go_wp2_with fail
            refine (known21 _).mono ?_
            rintro x w9 ⟨rfl, o9⟩
            have Q9 := hid (HQ11.out.trans o9); clear o9
            go_wp2_with fail
            go_ret
            exact ⟨rfl, Q9.out⟩
end Go.Proofs.Ytfoecnlbiaiibaa.nam
