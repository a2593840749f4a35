/-
  Chapter 6 (ipv4): a law: any bytes are a packet, or refused for the first reason of all. Conditions: none but those typed.
-/
import Derived.Test.YtaoeflngdlgboaaDoorIpDc
import Derived.Test.YtaoeflngdlgboaaDoorIpJ
namespace Go.Proofs.YtaoeflngdlgboaaDoor.ip
set_option linter.unusedVariables false
set_option linter.unusedSimpArgs false
open Go.ChangeShapes Go.WideShapes Go.ChangeAt Go.RowKit Go.IntWalk Go.Lib
set_option maxRecDepth 100000 in
set_option maxHeartbeats 8000000 in
theorem decodes (w : World) (A : Option Addr) (n c : Nat) (m : Int) (l : List Int) (hl : Rd .u8 w A n l) (hc0 : A = none → c = 0) (hnc : n ≤ c) (hcm : c ≤ maxLen) (hm : w.cell? ⟨1, 0, none⟩ = some (.int .i64 m)) (ht : Lib.TabIs Tryd.prog w "internal/strconv.uint64pow10" .u64 Lib.pow10Tab) :
    Calls Tryd.prog 4 #[.slice A n c] w (fun e w' => e = .returned (.bool true) ∧ Only [] w w') := by
  have HM := hid hm; have HT := hid ht; clear hm ht
  by_cases hn : n > 70000
  · have h1 : (n : Int) > 70000 := by omega
    have h2 : (70000 : Int) < n := by omega
    go_enter Tryd.func4, Tryd.ntmps4
    go_wp2
    go_ret
    exact ⟨rfl, Only.refl _ _⟩
  · have h1 : ¬ (n : Int) > 70000 := by omega
    have h2 : ¬ (70000 : Int) < n := by omega
    have HLen := hid hl.len
    have HL := hid hl; clear hl
    have HC := hid hc0; clear hc0
    go_enter Tryd.func4, Tryd.ntmps4
    go_wp2_with fail
    refine (hlp.roomy w A n c l HL.out HC.out (by omega)).mono ?_
    rintro x w1 ⟨g, cap, rfl, hv, o1⟩
    have hcap := hv.len
    have hgb := hv.base_le
    have hcapm : cap ≤ maxLen := hcap.2.2
    have HV := hid hv; have HB := hid o1; clear hv o1
    have HPT : Hid (∀ W : World, Own .u8 5 W w.heap.size (.slice (some ⟨g, 0, none⟩) (n + 1) cap) (l ++ [171]) → Rd .u8 W (some ⟨g, 0, none⟩) n l) := hid (fun W h => by
      have h5 := h.rd.take n (by omega)
      rwa [List.take_append_of_le_length (by rw [HLen.out]; exact Nat.le_refl _), List.take_of_length_le (by rw [HLen.out]; exact Nat.le_refl _)] at h5)
    have hncap : (n : Int) ≤ cap := by omega
    go_wp2_with fail
    refine (decGen w1 (some ⟨g, 0, none⟩) n cap l (HPT.out _ HV.out) (by omega) hcapm (by omega)).mono ?_
    rintro x w2 ⟨ov, dv, t, rfl, hov, hdv, hdis, ht0, o2⟩
    have HV := hid (HV.out.only_nil o2); have HB := hid (HB.out.trans o2); have hs12 : w1.heap.size ≤ w2.heap.size := o2.size; have hs01 := HB.out.size
    obtain ⟨f0, f1, f2, f3, f4, f5, f6, f7, f8, hgd⟩ := dGp_form l
    rw [hgd]
    have HG2 := hid hgd; clear hgd
    obtain ⟨hle1, hle2⟩ := lens l
    rw [HLen.out] at hle1 hle2
    obtain ⟨no, hno⟩ : ∃ q, q = (oL l).length := ⟨_, rfl⟩
    obtain ⟨nd, hnd⟩ : ∃ q, q = (dL l).length := ⟨_, rfl⟩
    obtain ⟨Ao, co, evo, _, _, ro, _⟩ := hov.slice
    obtain ⟨Ad, cd, evd, _, _, rd, _⟩ := hdv.slice
    rw [← hno] at evo ro hle1; rw [← hnd] at evd rd hle2
    have HOVL : ∀ k ∈ ov.ownBlock.toList, w1.heap.size ≤ k ∧ k < t ∧ k < w2.heap.size := fun k hk => ⟨(hov.lt k (by simpa using hk)).1, hdis k hk, (hov.lt k (by simpa using hk)).2⟩
    have HDVL : ∀ k ∈ dv.ownBlock.toList, t ≤ k ∧ k < w2.heap.size := fun k hk => hdv.lt k (by simpa using hk)
    have HLO : Hid ((oL l).length ≤ 200000) := hid (by omega)
    have HLD : Hid ((dL l).length ≤ 200000) := hid (by omega)
    have HNO := hid hno; have HND := hid hnd
    subst evo evd
    have OV := hid hov; have DV := hid hdv; have R1 := hid ro; have R2 := hid rd
    clear hov hdv hdis ro rd o2 hno hnd
    have HOA : Hid (Ob (w2.alloc (.cells #[.int .i64 f0, .int .i64 f1, .bool f2, .bool f3, .int .i64 f4, .int .i64 f5, .int .i64 f6, .int .u32 f7, .int .u32 f8, .slice Ao no co, .slice Ad nd cd] 26)) w2.heap.size 26 #[.int .i64 f0, .int .i64 f1, .bool f2, .bool f3, .int .i64 f4, .int .i64 f5, .int .i64 f6, .int .u32 f7, .int .u32 f8, .slice Ao no co, .slice Ad nd cd]) := hid (Ob.new _ _ _)
    have oa : Only [] w2 (w2.alloc (.cells #[.int .i64 f0, .int .i64 f1, .bool f2, .bool f3, .int .i64 f4, .int .i64 f5, .int .i64 f6, .int .u32 f7, .int .u32 f8, .slice Ao no co, .slice Ad nd cd] 26)) := (Only.refl _ _).alloc _
    have HV := hid (HV.out.only_nil oa); have HB := hid (HB.out.trans oa); have OV := hid (OV.out.only_nil oa); have DV := hid (DV.out.only_nil oa); have R1 := hid (R1.out.only_nil oa); have R2 := hid (R2.out.only_nil oa)
    clear oa
    generalize hDE : dEp l = er
    have HDE := hid hDE; clear hDE
    go_wp2_with fail
    generalize hW3 : w2.alloc (.cells #[.int .i64 f0, .int .i64 f1, .bool f2, .bool f3, .int .i64 f4, .int .i64 f5, .int .i64 f6, .int .u32 f7, .int .u32 f8, .slice Ao no co, .slice Ad nd cd] 26) = W3 at *
    generalize hb2 : w2.heap.size = b2 at *
    have hb23 : b2 < W3.heap.size := HOA.out.lt
    clear hW3 hb2
    refine (rdecGen W3 A n c l (HL.out.only_nil HB.out) hnc hcm (by omega)).mono ?_
    rintro x w4 ⟨ov2, dv2, rfl, hov2, hdv2, o4⟩
    rw [HG2.out, HDE.out]
    have HOA := hid (HOA.out.only o4 (by simp)); have HV := hid (HV.out.only_nil o4); have HB := hid (HB.out.trans o4); have OV := hid (OV.out.only_nil o4); have DV := hid (DV.out.only_nil o4); have R1 := hid (R1.out.only_nil o4); have R2 := hid (R2.out.only_nil o4)
    obtain ⟨Ao2, co2, evo2, _, _, ro2, _⟩ := hov2.slice
    obtain ⟨Ad2, cd2, evd2, _, _, rd2, _⟩ := hdv2.slice
    rw [← HNO.out] at evo2 ro2; rw [← HND.out] at evd2 rd2
    have R3 := hid ro2; have R4 := hid rd2
    subst evo2 evd2
    clear hov2 hdv2 ro2 rd2 o4
    have HOB : Hid (Ob (w4.alloc (.cells #[.int .i64 f0, .int .i64 f1, .bool f2, .bool f3, .int .i64 f4, .int .i64 f5, .int .i64 f6, .int .u32 f7, .int .u32 f8, .slice Ao2 no co2, .slice Ad2 nd cd2] 26)) w4.heap.size 26 #[.int .i64 f0, .int .i64 f1, .bool f2, .bool f3, .int .i64 f4, .int .i64 f5, .int .i64 f6, .int .u32 f7, .int .u32 f8, .slice Ao2 no co2, .slice Ad2 nd cd2]) := hid (Ob.new _ _ _)
    have oa : Only [] w4 (w4.alloc (.cells #[.int .i64 f0, .int .i64 f1, .bool f2, .bool f3, .int .i64 f4, .int .i64 f5, .int .i64 f6, .int .u32 f7, .int .u32 f8, .slice Ao2 no co2, .slice Ad2 nd cd2] 26)) := (Only.refl _ _).alloc _
    have HOA := hid (HOA.out.only oa (by simp)); have HV := hid (HV.out.only_nil oa); have HB := hid (HB.out.trans oa); have OV := hid (OV.out.only_nil oa); have DV := hid (DV.out.only_nil oa); have R1 := hid (R1.out.only_nil oa); have R2 := hid (R2.out.only_nil oa); have R3 := hid (R3.out.only_nil oa); have R4 := hid (R4.out.only_nil oa)
    clear oa
    have HN1 : Hid (no ≤ 100000) := hid (by omega)
    have HN2 : Hid (nd ≤ 200000) := hid (by omega)
    go_wp2_with (first
      | (refine wp_loadOb rfl 26 (.tmp 4) rfl b2 rfl _ 26 HOA.out Tryd.underlying26 rfl (by kernel_rfl) ?_; try simp only [Act.put, List.setIfInBounds_toArray, List.set_cons_zero, List.set_cons_succ])
      | (refine wp_loadOb rfl 26 (.tmp 6) rfl w4.heap.size rfl _ 26 HOB.out Tryd.underlying26 rfl (by kernel_rfl) ?_; try simp only [Act.put, List.setIfInBounds_toArray, List.set_cons_zero, List.set_cons_succ])
      | fail)
    refine (packets1 _ f0 f1 f4 f5 f6 f2 f3 f7 f8 Ao no co Ad nd cd Ao2 co2 Ad2 cd2 (oL l) (dL l) R1.out R2.out R3.out R4.out HN1.out HN2.out).mono ?_
    rintro x w6 ⟨rfl, o6⟩
    have HOA := hid (HOA.out.only o6 (by simp)); have HV := hid (HV.out.only_nil o6); have HB := hid (HB.out.trans o6); have OV := hid (OV.out.only_nil o6); have DV := hid (DV.out.only_nil o6)
    clear o6 R1 R2 R3 R4 HOB
    go_wp2_with fail
    refine (callsOnly (hlp.stands _ (some ⟨g, 0, none⟩) A n cap c l HV.out.rd (by omega) (HL.out.only_nil HB.out) (by omega))).mono ?_
    rintro x w7 ⟨rfl, o7⟩
    have HOA := hid (HOA.out.only o7 (by simp)); have HV := hid (HV.out.only_nil o7); have HB := hid (HB.out.trans o7); have OV := hid (OV.out.only_nil o7); have DV := hid (DV.out.only_nil o7)
    clear o7
    have q4 : w7.cell? ⟨b2, 10, none⟩ = some (.slice Ad nd cd) := HOA.out.cell 10
    go_wp2_with fail
    clear q4
    have hla := HOA.out.lt
    refine (hlp.spoilO _ w1.heap.size (.slice Ad nd cd) _ (DV.out.mono_base ht0) (by omega) HLD.out).mono ?_
    rintro x w8 ⟨rfl, o8⟩
    have HV := hid (HV.out.only o8 (fun i hi hm => by have := (HDVL i hm).1; have h9 : g = i := by simpa [Value.ownBlock] using hi
                                                      omega))
    have OV := hid (OV.out.only o8 (fun i hi hm => by have h8 := (HDVL i hm).1; have h9 := (HOVL i (by simpa using hi)).2.1; omega))
    have HOA := hid (HOA.out.only o8 (fun hm => by have := (HDVL _ hm).2; omega))
    have HB := hid (HB.out.fresh o8 (fun i hi => .inr (by have := (HDVL i hi).1; omega)))
    clear o8 DV
    have q5 : w8.cell? ⟨b2, 9, none⟩ = some (.slice Ao no co) := HOA.out.cell 9
    go_wp2_with fail
    clear q5
    have hlb := HOA.out.lt
    refine (hlp.spoilO _ w1.heap.size (.slice Ao no co) _ OV.out (by omega) HLO.out).mono ?_
    rintro x w9 ⟨rfl, o9⟩
    have HV := hid (HV.out.only o9 (fun i hi hm => by have := (HOVL i hm).1; have h9 : g = i := by simpa [Value.ownBlock] using hi
                                                      omega))
    have HB := hid (HB.out.fresh o9 (fun i hi => .inr (by have := (HOVL i hi).1; omega)))
    clear o9 OV
    go_wp2_with fail
    refine (callsOnly (hlp.stands _ (some ⟨g, 0, none⟩) A n cap c l HV.out.rd (by omega) (HL.out.only_nil HB.out) (by omega))).mono ?_
    rintro x w10 ⟨rfl, o10⟩
    have HB := hid (HB.out.trans o10); clear o10
    go_wp2_with fail
    refine (known _ m (HB.out.keep HM.out) (tab_only HT.out HB.out)).mono ?_
    rintro x w11 ⟨rfl, o11⟩
    have HB := hid (HB.out.trans o11); clear o11
    go_wp2
    go_ret
    exact ⟨rfl, HB.out⟩
end Go.Proofs.YtaoeflngdlgboaaDoor.ip
