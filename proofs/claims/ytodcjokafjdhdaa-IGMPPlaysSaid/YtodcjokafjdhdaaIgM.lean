/-
  Chapter 10 (igmp): the document's Join, by a walk of its text. Conditions: none but those typed.
-/
import Derived.Test.YtodcjokafjdhdaaIgL
namespace Go.Proofs.Ytodcjokafjdhdaa.igm
set_option linter.unusedVariables false
set_option linter.unusedSimpArgs false
open Go.ChangeShapes Go.WideShapes Go.ChangeAt Go.RowKit Go.IntWalk Go.Lib
theorem rdS_dm (w : World) (m : Dm) : RdS (w.alloc (.cells #[.int .u32 m.g, .bool m.t, .int .i64 m.at_, .bool m.o] 83)) (some ⟨w.heap.size, 0, none⟩) 1 4 (Dm.enc m) :=
  ⟨rfl, dnc_one m, fun _ => ⟨w.heap.size, 0, rfl, by simp, fun j u hj => by
    rw [Nat.zero_add, (Ob.new w 83 _).cell]
    rw [← hj]
    unfold Dm.enc
    simp⟩⟩
def JoinDE (B g : Nat) (v : Value) (er : Int) (S' : List Gm) (t : Int) (w : World) (x : Ending) (w' : World) : Prop :=
  ∃ A n c cs v' D', x = .returned (.tuple #[.slice A n c, .int .i64 er]) ∧ (cs, n) = (if er = 0 then (ign t, 1) else ([], 0)) ∧ RdS w' A n 3 cs ∧ (∀ b off, A = some ⟨b, off, none⟩ → w.heap.size ≤ b) ∧ DStp w B g v w' v' D' ∧ D'.map Dm.ab = S'
theorem joinDno {w w' : World} {B g : Nat} {v : Value} {D : List Dm} {er t : Int} (h : DI w B g v D) (o : Only [] w w') (he : er ≠ 0) : JoinDE B g v er (D.map Dm.ab) t w (.returned (.tuple #[.slice none 0 0, .int .i64 er])) w' :=
  ⟨none, 0, 0, [], v, D, rfl, by rw [if_neg he], RdS.zero _ _ _, by simp, h.same o, rfl⟩
theorem spot_le (S : List Gm) (t : Int) : spotS S t ≤ S.length := by unfold spotS; exact List.countP_le_length
set_option maxRecDepth 100000 in
set_option maxHeartbeats 8000000 in
theorem joinD (w : World) (B g : Nat) (v : Value) (D : List Dm) (t now draw : Int) (h : DI w B g v D) (hR : RiseS (D.map Dm.ab)) (hl : D.length ≤ 16) (hB : B ≤ w.heap.size) (hnow : 0 ≤ now ∧ now ≤ 9223372036854775807) (hdr : draw ≤ 9223372036854775807) :
    Calls Try.prog 35 #[.pointer (some ⟨g, 0, none⟩), .int .u32 t, .int .i64 now, .int .i64 draw] w (JoinDE B g v (joinE (D.map Dm.ab) t) (joinS (D.map Dm.ab) t now draw) t w) := by
  have H := hid h; have HB := hid hB; have HRi := hid hR
  clear h hR hB
  by_cases h1 : t ≤ 3758096385
  · have HE : Hid (joinE (D.map Dm.ab) t = 1) := hid (by unfold joinE; rw [if_pos (.inl h1)])
    have HS : Hid (joinS (D.map Dm.ab) t now draw = D.map Dm.ab) := hid (by unfold joinS; rw [HE.out]; rfl)
    rw [HE.out, HS.out]
    go_enter Try.func35, Try.ntmps35
    go_wp2_with fail
    go_ret2
    exact joinDno H.out (Only.refl _ _) (by decide)
  · by_cases h2 : 4026531840 ≤ t
    · have HE : Hid (joinE (D.map Dm.ab) t = 1) := hid (by unfold joinE; rw [if_pos (.inr h2)])
      have HS : Hid (joinS (D.map Dm.ab) t now draw = D.map Dm.ab) := hid (by unfold joinS; rw [HE.out]; rfl)
      rw [HE.out, HS.out]
      go_enter Try.func35, Try.ntmps35
      go_wp2_with fail
      go_ret2
      exact joinDno H.out (Only.refl _ _) (by decide)
    · cases hh : hasS (D.map Dm.ab) t with
      | true =>
        have HE : Hid (joinE (D.map Dm.ab) t = 8) := hid (by unfold joinE; rw [if_neg (by omega), if_pos hh])
        have HS : Hid (joinS (D.map Dm.ab) t now draw = D.map Dm.ab) := hid (by unfold joinS; rw [HE.out]; rfl)
        have HH := hid hh
        rw [HE.out, HS.out]
        clear hh
        go_enter Try.func35, Try.ntmps35
        go_wp2_with fail
        refine (spotD w B g v D t H.out HRi.out (by omega)).mono ?_
        rintro x w2 ⟨rfl, o2⟩
        rw [HH.out]
        have O2 := hid o2; clear o2
        go_wp2_with fail
        go_ret2
        exact joinDno H.out O2.out (by decide)
      | false =>
        have HH := hid hh
        by_cases hf : D.length = 16
        · have HE : Hid (joinE (D.map Dm.ab) t = 6) := hid (by unfold joinE; rw [if_neg (by omega), if_neg (by rw [hh]; decide), if_pos (by rw [List.length_map]; omega)])
          have HS : Hid (joinS (D.map Dm.ab) t now draw = D.map Dm.ab) := hid (by unfold joinS; rw [HE.out]; rfl)
          rw [HE.out, HS.out]
          clear hh
          go_enter Try.func35, Try.ntmps35
          go_wp2_with fail
          refine (spotD w B g v D t H.out HRi.out (by omega)).mono ?_
          rintro x w2 ⟨rfl, o2⟩
          rw [HH.out]
          have O2 := hid o2
          obtain ⟨A, c, ev, -, -, -, -, -, -⟩ := RdS.of_own H.out.own (rws_one dnc_one _)
          have k0 := (H.out.nil o2).ob.cell 0
          rw [ev, hf] at k0
          clear o2
          go_wp2_with fail
          go_ret2
          exact joinDno H.out O2.out (by decide)
        · have hlt : D.length < 16 := by omega
          have HE : Hid (joinE (D.map Dm.ab) t = 0) := hid (by unfold joinE; rw [if_neg (by omega), if_neg (by rw [hh]; decide), if_neg (by rw [List.length_map]; omega)])
          have HS : Hid (joinS (D.map Dm.ab) t now draw = insL (D.map Dm.ab) (spotS (D.map Dm.ab) t) ⟨t, some (laterZ now (dly draw.toNat (spotS (D.map Dm.ab) t) 10 : Nat)), true⟩) := hid (by unfold joinS; rw [HE.out]; rfl)
          rw [HE.out, HS.out]
          have hk := spot_le (D.map Dm.ab) t
          obtain ⟨k, hke⟩ : ∃ k, spotS (D.map Dm.ab) t = k := ⟨_, rfl⟩
          have HKE := hid hke
          rw [hke] at hk ⊢
          rw [List.length_map] at hk
          have hdl := dly_le draw.toNat k 10 (by decide)
          obtain ⟨dl, hdl2⟩ : ∃ dl, dly draw.toNat k 10 = dl := ⟨_, rfl⟩
          have HDL := hid hdl2
          rw [hdl2] at hdl ⊢
          obtain ⟨la, hla⟩ : ∃ la, laterZ now (dl : Int) = la := ⟨_, rfl⟩
          have HLA := hid hla
          rw [hla]
          obtain ⟨A, c, ev, -, -, -, -, -, -⟩ := RdS.of_own H.out.own (rws_one dnc_one _)
          have HEV := hid ev
          obtain ⟨n, hn⟩ : ∃ n, D.length = n := ⟨_, rfl⟩
          have HN := hid hn
          rw [hn] at hk hl hlt
          clear hh hke hf ev hn hdl2 hla
          go_enter Try.func35, Try.ntmps35
          go_wp2_with fail
          refine (spotD w B g v D t H.out HRi.out (by rw [HN.out]; exact hl)).mono ?_
          rintro x w2 ⟨rfl, o2⟩
          rw [HH.out, HKE.out]
          have H2 := hid (H.out.nil o2); have Q2 := hid o2
          clear o2
          have H3 := H2
          rw [HEV.out, HN.out] at H3
          obtain ⟨hS1, hR1, hZ1, hF1⟩ := dslTo w2 B A n c k D H3.out.own HN.out hk
          obtain ⟨A2, c2, hS2, hR2, hZ2, hF2⟩ := dslFrom w2 B A n c k D H3.out.own HN.out hk
          have HR1 := hid hR1; have HZ1 := hid hZ1; have HF1 := hid hF1; have HR2 := hid hR2; have HZ2 := hid hZ2; have HF2 := hid hF2
          have HS2 := hid hS2
          have HLw : Hid (w.heap.size ≤ w2.heap.size) := hid Q2.out.size
          clear hR1 hZ1 hF1 hS2 hR2 hZ2 hF2
          obtain ⟨wE, hwE⟩ : ∃ x, w2.alloc (.cells #[] 83) = x := ⟨_, rfl⟩
          have oE : Only [] w2 wE := by rw [← hwE]; exact (Only.refl [] w2).alloc _
          have HE9 : Hid (wE.ownsRow w2.heap.size 83 4 (.slice (some ⟨w2.heap.size, 0, none⟩) 0 0) 0 []) := hid ⟨by simp, .inr ⟨w2.heap.size, 0, #[], rfl, Nat.le_refl _, by rw [← hwE]; exact Ob.new _ _ _, Nat.le_refl _, by unfold maxLen; omega, by simp, by simp⟩⟩
          have QE := hid oE; have HSZ := hid oE.size
          have k0 := H3.out.ob.cell 0
          have k0E := (H3.out.ob.only oE (by simp)).cell 0
          clear oE
          go_wp2_with (at_builtin; refine wpList_appS _ rfl (.tmp 32) (.tmp 38) _ rfl elemDm w2.heap.size (.slice (some ⟨w2.heap.size, 0, none⟩) 0 0) 0 [] rfl HE9.out A k c (rws Dm.enc (D.take k)) rfl (HR1.out.only_nil QE.out) HZ1.out HF1.out (by omega) (by unfold maxLen; omega) HSZ.out ?_)
          intro v7 w7 hv7 hg7 hb7
          have V7 := hid (show w7.ownsRow _ 83 4 v7 k (rws Dm.enc (D.take k)) from by simpa using hv7)
          have Q7 := hid (show Only [] w2 w7 from QE.out.of_grown hg7 (fun jj hj2 => .inr (own_lt HE9.out jj hj2).1))
          clear hv7 hg7 hb7 k0 k0E hS1
          go_wp2_with fail
          refine (delayD w7 draw 10 k hdr (by omega) (by omega)).mono ?_
          rintro x w8 ⟨rfl, e8⟩
          subst e8
          rw [show (max (10 : Int) 1).toNat = 10 from by decide, HDL.out]
          go_wp2_with fail
          refine (rlater w7 now (dl : Int) (by omega) hnow).mono ?_
          rintro x w9 ⟨rfl, e9⟩
          subst e9
          rw [HLA.out]
          have oO : Only [] w7 (w7.alloc (.cells #[.int .u32 t, .bool true, .int .i64 la, .bool true] 83)) := (Only.refl [] w7).alloc _
          have V9 := hid (own_only_nil V7.out oO)
          have R9 := hid (rdS_dm w7 ⟨t, true, la, true⟩)
          have Q9 := hid (Q7.out.trans oO); have HSZ9 := hid (Q7.out.trans oO).size
          clear oO
          go_wp2_with (at_builtin; refine wpList_appS _ rfl (.tmp 40) (.tmp 48) _ rfl elemDm w2.heap.size v7 k (rws Dm.enc (D.take k)) rfl V9.out (some ⟨w7.heap.size, 0, none⟩) 1 1 (Dm.enc ⟨t, true, la, true⟩) rfl R9.out (by intro e; cases e) (.inr ⟨_, _, rfl⟩) (by omega) (by unfold maxLen; omega) HSZ9.out ?_)
          intro v10 w10 hv10 hg10 hb10
          have V10 := hid hv10
          have Q10 := hid (show Only [] w2 w10 from Q9.out.of_grown hg10 (fun jj hj2 => .inr (own_lt V9.out jj hj2).1))
          have HSZ10 := hid Q10.out.size
          have hs2 := HS2.out
          have k0 := (H3.out.ob.only Q10.out (by simp)).cell 0
          clear hv10 hg10 hb10
          go_wp2_with (at_builtin; refine wpList_appS _ rfl (.tmp 51) (.tmp 57) _ rfl elemDm w2.heap.size v10 (k + 1) (rws Dm.enc (D.take k) ++ Dm.enc ⟨t, true, la, true⟩) rfl V10.out A2 (n - k) c2 (rws Dm.enc (D.drop k)) rfl (HR2.out.only_nil Q10.out) HZ2.out HF2.out (by omega) (by unfold maxLen; omega) HSZ10.out ?_)
          intro v12 w12 hv12 hg12 hb12
          have Q12 := hid (show Only [] w2 w12 from Q10.out.of_grown hg12 (fun jj hj2 => .inr (own_lt V10.out jj hj2).1))
          have hv13 : w12.ownsRow w2.heap.size 83 4 v12 (k + 1 + (n - k)) (rws Dm.enc (D.take k ++ [⟨t, true, la, true⟩] ++ D.drop k)) := by rw [rws_app, rws_app]; simpa [rws] using hv12
          obtain ⟨A12, c12, e12, -, -, -, -, -, -⟩ := RdS.of_own hv13 (rws_one dnc_one _)
          have HE12 := hid e12
          rw [e12]
          have HV12 : Hid (w12.ownsRow w.heap.size 83 4 v12 (k + 1 + (n - k)) (rws Dm.enc (D.take k ++ [⟨t, true, la, true⟩] ++ D.drop k))) := hid (own_mono hv13 HLw.out)
          clear hv12 hv13 hg12 hb12 e12 k0 hs2
          have HO12 := hid (H3.out.ob.only Q12.out (by simp))
          have k0 := HO12.out.cell 0; have f0 := HO12.out.frozen 0
          have hst := dstp_put H.out (Q2.out.trans Q12.out) HB.out HV12.out (by rw [List.length_append, List.length_append, List.length_take, List.length_drop, HN.out, List.length_singleton]; omega)
          rw [HE12.out] at hst
          obtain ⟨WZ, hWZ⟩ : ∃ x, w12.setCell ⟨g, 0, none⟩ (.slice A12 (k + 1 + (n - k)) c12) = x := ⟨_, rfl⟩
          rw [hWZ] at hst
          have HST := hid hst
          clear hst
          go_wp2_with fail
          go_ret2
          have oA := (Only.refl [] WZ).alloc (.cells #[.int .i64 22, .int .i64 0, .int .u32 t] 25)
          have hsz : w.heap.size ≤ WZ.heap.size := HST.out.only.size
          refine ⟨_, 1, 1, ign t, _, _, rfl, rfl, rdS_ign WZ t, fun b off e => ?_, ⟨HST.out.di.nil oA, HST.out.bk, HST.out.only.trans (oA.more (by simp))⟩, ?_⟩
          · injection e with e; injection e with e; omega
          · unfold insL
            rw [List.map_append, List.map_append, List.map_take, List.map_drop]
            simp [Dm.ab]
end Go.Proofs.Ytodcjokafjdhdaa.igm
