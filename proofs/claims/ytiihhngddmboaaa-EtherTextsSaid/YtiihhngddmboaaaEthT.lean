/-
  Chapter 4 (ether): whose a frame is, by a walk of each text. Conditions: none but those typed.
-/
import Derived.Test.YtiihhngddmboaaaOwn
import Derived.Test.YtiihhngddmboaaaBit
import Derived.Test.YtiihhngddmboaaaRgn
import Derived.Test.YtiihhngddmboaaaStc
import Derived.Test.YtiihhngddmboaaaEqM
import Derived.Laws.EntriesVeiled
namespace Go.Proofs.Ytiihhngddmboaaa.eth
set_option linter.unusedVariables false
set_option linter.unusedSimpArgs false
open Go.ChangeShapes Go.WideShapes Go.ChangeAt Go.RowKit Go.IntWalk Go.Lib
theorem u8_127 (x : Int) (h : 0 ≤ x ∧ x ≤ 255) : bits .and .u8 x 127 = x % 128 := by
  obtain ⟨n, rfl⟩ := Int.eq_ofNat_of_zero_le h.1
  have hn : n < 256 := by omega
  have key : ∀ m : Fin 256, bits .and .u8 (m.val : Int) 127 = (m.val : Int) % 128 := by decide +kernel
  exact key ⟨n, hn⟩
def eqM (a0 a1 a2 a3 a4 a5 b0 b1 b2 b3 b4 b5 : Int) : Bool := decide (a0 = b0 ∧ a1 = b1 ∧ a2 = b2 ∧ a3 = b3 ∧ a4 = b4 ∧ a5 = b5)
theorem og1 (w : World) (g : Int) (h : 0 ≤ g ∧ g ≤ 4294967295) : Calls Try.prog 25 #[.int .u32 g] w fun x w' => x = .returned (.agg #[.int .u8 1, .int .u8 0, .int .u8 94, .int .u8 (g / 65536 % 128), .int .u8 (g / 256 % 256), .int .u8 (g % 256)]) ∧ Only [] w w' := by
  have hb : bits .and .u8 (g / 65536 % 256) 127 = g / 65536 % 128 := by rw [u8_127 _ (by omega)]; omega
  have OR : Hid (Ob (w.alloc (.cells #[.int .u8 0, .int .u8 0, .int .u8 0, .int .u8 0, .int .u8 0, .int .u8 0] 23)) w.heap.size 23 #[.int .u8 0, .int .u8 0, .int .u8 0, .int .u8 0, .int .u8 0, .int .u8 0]) := hid (Ob.new _ _ _)
  have QB : Hid (Only [] w (w.alloc (.cells #[.int .u8 0, .int .u8 0, .int .u8 0, .int .u8 0, .int .u8 0, .int .u8 0] 23))) := hid ((Only.refl [] w).alloc _)
  go_enter Try.func25, Try.ntmps25
  go_wp2_with (refine wp_storeOb rfl 23 _ _ rfl _ _ rfl rfl _ _ OR.out rfl (by kernel_rfl) (by simp [Value.oneCell']) (fun W5 hW5 => ?_); try simp only [Act.put, List.setIfInBounds_toArray, List.set_cons_zero, List.set_cons_succ]; have OR5 := hid (OR.out.eq_all hW5 rfl); have QB5 := hid (QB.out.eq_all hW5 (Or.inr (by simp))); clear hW5)
  have r0 := OR5.out.cell 0; have r1 := OR5.out.cell 1; have r2 := OR5.out.cell 2; have r3 := OR5.out.cell 3; have r4 := OR5.out.cell 4; have r5 := OR5.out.cell 5
  exact bodyPost_ret (v := .agg #[.int .u8 1, .int .u8 0, .int .u8 94, .int .u8 (g / 65536 % 128), .int .u8 (g / 256 % 256), .int .u8 (g % 256)]) (by simp [results, Try.results25, go_sem, *]) rfl ⟨rfl, QB5.out⟩
theorem og2 (w : World) (g : Int) (h : 0 ≤ g ∧ g ≤ 4294967295) : Calls Try.prog 26 #[.int .u32 g] w fun x w' => x = .returned (.agg #[.int .u8 1, .int .u8 0, .int .u8 94, .int .u8 (g / 65536 % 128), .int .u8 (g / 256 % 256), .int .u8 (g % 256)]) ∧ Only [] w w' := by
  have hb : bits .and .u8 (g / 65536 % 256) 127 = g / 65536 % 128 := by rw [u8_127 _ (by omega)]; omega
  have OR : Hid (Ob (w.alloc (.cells #[.int .u8 0, .int .u8 0, .int .u8 0, .int .u8 0, .int .u8 0, .int .u8 0] 23)) w.heap.size 23 #[.int .u8 0, .int .u8 0, .int .u8 0, .int .u8 0, .int .u8 0, .int .u8 0]) := hid (Ob.new _ _ _)
  have QB : Hid (Only [] w (w.alloc (.cells #[.int .u8 0, .int .u8 0, .int .u8 0, .int .u8 0, .int .u8 0, .int .u8 0] 23))) := hid ((Only.refl [] w).alloc _)
  go_enter Try.func26, Try.ntmps26
  go_wp2_with (refine wp_storeOb rfl 23 _ _ rfl _ _ rfl rfl _ _ OR.out rfl (by kernel_rfl) (by simp [Value.oneCell']) (fun W5 hW5 => ?_); try simp only [Act.put, List.setIfInBounds_toArray, List.set_cons_zero, List.set_cons_succ]; have OR5 := hid (OR.out.eq_all hW5 rfl); have QB5 := hid (QB.out.eq_all hW5 (Or.inr (by simp))); clear hW5)
  have r0 := OR5.out.cell 0; have r1 := OR5.out.cell 1; have r2 := OR5.out.cell 2; have r3 := OR5.out.cell 3; have r4 := OR5.out.cell 4; have r5 := OR5.out.cell 5
  exact bodyPost_ret (v := .agg #[.int .u8 1, .int .u8 0, .int .u8 94, .int .u8 (g / 65536 % 128), .int .u8 (g / 256 % 256), .int .u8 (g % 256)]) (by simp [results, Try.results26, go_sem, *]) rfl ⟨rfl, QB5.out⟩
def inG (G : List Int) (t0 t1 t2 t3 t4 t5 : Int) : Bool := G.any (fun g => eqM t0 t1 t2 t3 t4 t5 1 0 94 (g / 65536 % 128) (g / 256 % 256) (g % 256))
theorem inG_succ (G : List Int) (k : Nat) (hk : k < G.length) (t0 t1 t2 t3 t4 t5 : Int) : inG (G.take (k + 1)) t0 t1 t2 t3 t4 t5 = (inG (G.take k) t0 t1 t2 t3 t4 t5 || eqM t0 t1 t2 t3 t4 t5 1 0 94 (G.getD k 0 / 65536 % 128) (G.getD k 0 / 256 % 256) (G.getD k 0 % 256)) := by
  unfold inG
  rw [List.take_succ_eq_append_getElem hk, List.any_append]
  simp [List.getD_eq_getElem?_getD, hk]
theorem inG_in (G : List Int) (k : Nat) (hk : k < G.length) (t0 t1 t2 t3 t4 t5 : Int) (h : eqM t0 t1 t2 t3 t4 t5 1 0 94 (G.getD k 0 / 65536 % 128) (G.getD k 0 / 256 % 256) (G.getD k 0 % 256) = true) : inG G t0 t1 t2 t3 t4 t5 = true := by
  unfold inG
  rw [List.any_eq_true]
  refine ⟨G.getD k 0, ?_, h⟩
  rw [List.getD_eq_getElem?_getD, List.getElem?_eq_getElem hk]
  exact List.getElem_mem hk
def tk (m0 m1 m2 m3 m4 m5 t0 t1 t2 t3 t4 t5 : Int) (G : List Int) : Bool := eqM t0 t1 t2 t3 t4 t5 m0 m1 m2 m3 m4 m5 || (eqM t0 t1 t2 t3 t4 t5 255 255 255 255 255 255 || inG G t0 t1 t2 t3 t4 t5)
theorem eth_eq (W : World) (a0 a1 a2 a3 a4 a5 b0 b1 b2 b3 b4 b5 : Int) (r : Bool) (h : eqM a0 a1 a2 a3 a4 a5 b0 b1 b2 b3 b4 b5 = r) : (Op.equalIn 10000 23 (.agg #[.int .u8 a0, .int .u8 a1, .int .u8 a2, .int .u8 a3, .int .u8 a4, .int .u8 a5]) (.agg #[.int .u8 b0, .int .u8 b1, .int .u8 b2, .int .u8 b3, .int .u8 b4, .int .u8 b5])).run Try.prog W = .ok r W := by
  have m := ev.eqMacD 9998 a0 a1 a2 a3 a4 a5 b0 b1 b2 b3 b4 b5 W
  rw [show decide (a0 = b0 ∧ a1 = b1 ∧ a2 = b2 ∧ a3 = b3 ∧ a4 = b4 ∧ a5 = b5) = r from h] at m
  exact m
theorem eqM_comm (a0 a1 a2 a3 a4 a5 b0 b1 b2 b3 b4 b5 : Int) : eqM a0 a1 a2 a3 a4 a5 b0 b1 b2 b3 b4 b5 = eqM b0 b1 b2 b3 b4 b5 a0 a1 a2 a3 a4 a5 := by
  unfold eqM
  congr 1
  apply propext
  constructor <;> (rintro ⟨h0, h1, h2, h3, h4, h5⟩; exact ⟨h0.symm, h1.symm, h2.symm, h3.symm, h4.symm, h5.symm⟩)
set_option maxHeartbeats 2000000 in
theorem takes1 (w : World) (m0 m1 m2 m3 m4 m5 t0 t1 t2 t3 t4 t5 : Int) (A : Option Addr) (n c : Nat) (G : List Int) (hl : Rd .u32 w A n G) (hn : n ≤ 100000) (hG : ∀ z ∈ G, 0 ≤ z ∧ z ≤ 4294967295) :
    Calls Try.prog 23 #[.agg #[.int .u8 m0, .int .u8 m1, .int .u8 m2, .int .u8 m3, .int .u8 m4, .int .u8 m5], .slice A n c, .agg #[.int .u8 t0, .int .u8 t1, .int .u8 t2, .int .u8 t3, .int .u8 t4, .int .u8 t5]] w fun x w' => x = .returned (.bool (tk m0 m1 m2 m3 m4 m5 t0 t1 t2 t3 t4 t5 G)) ∧ Only [] w w' := by
  have hll := hl.len
  have HG := hid hl; clear hl
  have HW := hid hG; clear hG
  have OM : Hid (Ob ((w.alloc (.cells #[.int .u8 m0, .int .u8 m1, .int .u8 m2, .int .u8 m3, .int .u8 m4, .int .u8 m5] 23)).alloc (.cells #[.int .u8 t0, .int .u8 t1, .int .u8 t2, .int .u8 t3, .int .u8 t4, .int .u8 t5] 23)) w.heap.size 23 #[.int .u8 m0, .int .u8 m1, .int .u8 m2, .int .u8 m3, .int .u8 m4, .int .u8 m5]) := hid ((Ob.new _ _ _).alloc _)
  have OT : Hid (Ob ((w.alloc (.cells #[.int .u8 m0, .int .u8 m1, .int .u8 m2, .int .u8 m3, .int .u8 m4, .int .u8 m5] 23)).alloc (.cells #[.int .u8 t0, .int .u8 t1, .int .u8 t2, .int .u8 t3, .int .u8 t4, .int .u8 t5] 23)) (w.heap.size + 1) 23 #[.int .u8 t0, .int .u8 t1, .int .u8 t2, .int .u8 t3, .int .u8 t4, .int .u8 t5]) := hid (by simpa using Ob.new (w.alloc (.cells #[.int .u8 m0, .int .u8 m1, .int .u8 m2, .int .u8 m3, .int .u8 m4, .int .u8 m5] 23)) 23 #[.int .u8 t0, .int .u8 t1, .int .u8 t2, .int .u8 t3, .int .u8 t4, .int .u8 t5])
  have QB : Hid (Only [] w ((w.alloc (.cells #[.int .u8 m0, .int .u8 m1, .int .u8 m2, .int .u8 m3, .int .u8 m4, .int .u8 m5] 23)).alloc (.cells #[.int .u8 t0, .int .u8 t1, .int .u8 t2, .int .u8 t3, .int .u8 t4, .int .u8 t5] 23))) := hid (((Only.refl [] w).alloc _).alloc _)
  have HT : Hid (tk m0 m1 m2 m3 m4 m5 t0 t1 t2 t3 t4 t5 G = (eqM t0 t1 t2 t3 t4 t5 m0 m1 m2 m3 m4 m5 || (eqM t0 t1 t2 t3 t4 t5 255 255 255 255 255 255 || inG G t0 t1 t2 t3 t4 t5))) := hid rfl
  have k0 := OT.out.cell 0; have j0 := OM.out.cell 0; have k1 := OT.out.cell 1; have j1 := OM.out.cell 1; have k2 := OT.out.cell 2; have j2 := OM.out.cell 2; have k3 := OT.out.cell 3; have j3 := OM.out.cell 3; have k4 := OT.out.cell 4; have j4 := OM.out.cell 4; have k5 := OT.out.cell 5; have j5 := OM.out.cell 5
  generalize tk m0 m1 m2 m3 m4 m5 t0 t1 t2 t3 t4 t5 G = res at *
  cases h1 : eqM t0 t1 t2 t3 t4 t5 m0 m1 m2 m3 m4 m5 with
  | true =>
    have E1 := fun W => eth_eq W t0 t1 t2 t3 t4 t5 m0 m1 m2 m3 m4 m5 _ h1
    have HX := hid h1; clear h1
    go_enter Try.func23, Try.ntmps23
    go_wp2
    go_ret
    exact ⟨rBool (by rw [HT.out, HX.out]; rfl), QB.out⟩
  | false =>
    have E1 := fun W => eth_eq W t0 t1 t2 t3 t4 t5 m0 m1 m2 m3 m4 m5 _ h1
    have HX := hid h1; clear h1
    cases h2 : eqM t0 t1 t2 t3 t4 t5 255 255 255 255 255 255 with
    | true =>
      have E2 := fun W => eth_eq W t0 t1 t2 t3 t4 t5 255 255 255 255 255 255 _ h2
      have HY := hid h2; clear h2
      go_enter Try.func23, Try.ntmps23
      go_wp2
      go_ret
      exact ⟨rBool (by rw [HT.out, HX.out, HY.out]; rfl), QB.out⟩
    | false =>
      have E2 := fun W => eth_eq W t0 t1 t2 t3 t4 t5 255 255 255 255 255 255 _ h2
      have HY := hid h2; clear h2
      have HR : Hid (res = inG G t0 t1 t2 t3 t4 t5) := hid (by rw [HT.out, HX.out, HY.out]; rfl)
      clear HT HX HY
      go_enter Try.func23, Try.ntmps23
      go_wp2
      clear k0 k1 k2 k3 k4 k5 j0 j1 j2 j3 j4 j5 E1 E2
      have QB0 := hid QB.out; have OT0 := hid OT.out
      clear QB OT OM
      generalize ((w.alloc (.cells #[.int .u8 m0, .int .u8 m1, .int .u8 m2, .int .u8 m3, .int .u8 m4, .int .u8 m5] 23)).alloc (.cells #[.int .u8 t0, .int .u8 t1, .int .u8 t2, .int .u8 t3, .int .u8 t4, .int .u8 t5] 23)) = W1 at *
      go_loopw [19] (fun i wr => ∃ k : Nat, k ≤ n ∧ i = .int .i64 k ∧ Hid (inG (G.take k) t0 t1 t2 t3 t4 t5 = false) ∧ Hid (Only [] W1 wr)) (fun i _ => n - (intOf i).toNat)
      case atStart => exact ⟨0, by omega, rfl, hid (by simp [inG]), hid (Only.refl _ _)⟩
      case round =>
      obtain ⟨k, hk, rfl, HF, HB⟩ := hrel
      have QB := hid (QB0.out.trans HB.out)
      have OT := hid (OT0.out.only HB.out (by simp))
      by_cases hlt : k < n
      · obtain ⟨b, off, rfl, hb, hc⟩ := (HG.out.only_nil QB.out).at_ (by omega)
        have q0 := hc k hlt
        have hg := HW.out (G.getD k 0) (by rw [List.getD_eq_getElem?_getD, List.getElem?_eq_getElem (by omega)]; exact List.getElem_mem _)
        have HS := hid (inG_succ G k (by omega) t0 t1 t2 t3 t4 t5)
        have HI := hid (inG_in G k (by omega) t0 t1 t2 t3 t4 t5)
        have hlti : (k : Int) < n := by omega
        obtain ⟨g, hgk⟩ : ∃ g, G.getD k 0 = g := ⟨_, rfl⟩
        rw [hgk] at q0 hg HS HI
        have HK := hid hgk; clear hgk hc
        cases h3 : eqM t0 t1 t2 t3 t4 t5 1 0 94 (g / 65536 % 128) (g / 256 % 256) (g % 256) with
        | true =>
          have E3 := fun W => eth_eq W t0 t1 t2 t3 t4 t5 1 0 94 (g / 65536 % 128) (g / 256 % 256) (g % 256) true h3
          have HX := hid h3; clear h3
          go_wp2_with fail
          refine wp_region_noPanic ?_
          refine rgn.regionT (R := Only []) (by kernel_rfl) (Only.refl []) (fun _ _ _ => Only.trans) (fun _ _ _ _ _ h => h) (.y 0 (.y 1 (.e 2 (.y 3 .z)))) (by kernel_rfl) (fun W hWd => ?_)
          have HWd := hid hWd; clear hWd
          have OT := hid (OT.out.eq_drew HWd.out); have QB := hid (QB.out.eq_drew HWd.out); have HB := hid (HB.out.eq_drew HWd.out)
          clear HWd
          refine rgn.Walk.ys rfl rfl rfl (fun W' hW' => exec_load 23 _ rfl _ rfl _ _ (OT.out.only hW' (by simp)) Try.underlying23 rfl (by kernel_rfl)) ?_
          try simp only [Act.put, List.setIfInBounds_toArray, List.set_cons_zero, List.set_cons_succ]
          refine rgn.Walk.ys (v := ?_) rfl rfl rfl ?_ ?_
          rotate_left 1
          · intro W' hW'
            go_simp
            try with_reducible rfl
          try simp only [Act.put, List.setIfInBounds_toArray, List.set_cons_zero, List.set_cons_succ]
          refine rgn.Walk.es ?_
          refine rgn.stepE rfl rfl (fun K hK => ?_)
          go_simp
          refine (og1 _ g hg).mono ?_
          rintro x w3 ⟨rfl, o3⟩
          refine hK _ _ o3 ?_
          clear hK K
          try simp only [Act.put, List.setIfInBounds_toArray, List.set_cons_zero, List.set_cons_succ]
          have OT := hid (OT.out.only o3 (by simp)); have QB := hid (QB.out.trans o3); have HB := hid (HB.out.trans o3); clear o3
          refine rgn.Walk.ys (v := ?_) rfl rfl rfl ?_ ?_
          rotate_left 1
          · intro W' hW'
            go_simp
            try with_reducible rfl
          try simp only [Act.put, List.setIfInBounds_toArray, List.set_cons_zero, List.set_cons_succ]
          refine rgn.Walk.zs (NoPanic.normal ?_)
          go_wp2
          go_ret
          exact ⟨rBool (by rw [HR.out, HI.out HX.out]), QB.out⟩
        | false =>
          have E3 := fun W => eth_eq W t0 t1 t2 t3 t4 t5 1 0 94 (g / 65536 % 128) (g / 256 % 256) (g % 256) false h3
          have HX := hid h3; clear h3
          go_wp2_with fail
          refine wp_region_noPanic ?_
          refine rgn.regionT (R := Only []) (by kernel_rfl) (Only.refl []) (fun _ _ _ => Only.trans) (fun _ _ _ _ _ h => h) (.y 0 (.y 1 (.e 2 (.y 3 .z)))) (by kernel_rfl) (fun W hWd => ?_)
          have HWd := hid hWd; clear hWd
          have OT := hid (OT.out.eq_drew HWd.out); have QB := hid (QB.out.eq_drew HWd.out); have HB := hid (HB.out.eq_drew HWd.out)
          clear HWd
          refine rgn.Walk.ys rfl rfl rfl (fun W' hW' => exec_load 23 _ rfl _ rfl _ _ (OT.out.only hW' (by simp)) Try.underlying23 rfl (by kernel_rfl)) ?_
          try simp only [Act.put, List.setIfInBounds_toArray, List.set_cons_zero, List.set_cons_succ]
          refine rgn.Walk.ys (v := ?_) rfl rfl rfl ?_ ?_
          rotate_left 1
          · intro W' hW'
            go_simp
            try with_reducible rfl
          try simp only [Act.put, List.setIfInBounds_toArray, List.set_cons_zero, List.set_cons_succ]
          refine rgn.Walk.es ?_
          refine rgn.stepE rfl rfl (fun K hK => ?_)
          go_simp
          refine (og1 _ g hg).mono ?_
          rintro x w3 ⟨rfl, o3⟩
          refine hK _ _ o3 ?_
          clear hK K
          try simp only [Act.put, List.setIfInBounds_toArray, List.set_cons_zero, List.set_cons_succ]
          have OT := hid (OT.out.only o3 (by simp)); have QB := hid (QB.out.trans o3); have HB := hid (HB.out.trans o3); clear o3
          refine rgn.Walk.ys (v := ?_) rfl rfl rfl ?_ ?_
          rotate_left 1
          · intro W' hW'
            go_simp
            try with_reducible rfl
          try simp only [Act.put, List.setIfInBounds_toArray, List.set_cons_zero, List.set_cons_succ]
          refine rgn.Walk.zs (NoPanic.normal ?_)
          go_wp2
          go_roundw
          case rel => exact ⟨k + 1, by omega, by go_num, hid (by rw [HS.out, HF.out, HX.out]; rfl), HB⟩
          case measure => simp [intOf]; omega
      · have hkn : k = n := by omega
        subst hkn
        have HE : Hid (inG G t0 t1 t2 t3 t4 t5 = false) := hid (by have h := HF.out; rwa [List.take_of_length_le (by omega)] at h)
        go_wp2
        go_ret
        exact ⟨rBool (by rw [HR.out, HE.out]), QB.out⟩
set_option maxHeartbeats 2000000 in
theorem takes2 (w : World) (m0 m1 m2 m3 m4 m5 t0 t1 t2 t3 t4 t5 : Int) (A : Option Addr) (n c : Nat) (G : List Int) (hl : Rd .u32 w A n G) (hn : n ≤ 100000) (hG : ∀ z ∈ G, 0 ≤ z ∧ z ≤ 4294967295) :
    Calls Try.prog 24 #[.agg #[.int .u8 m0, .int .u8 m1, .int .u8 m2, .int .u8 m3, .int .u8 m4, .int .u8 m5], .slice A n c, .agg #[.int .u8 t0, .int .u8 t1, .int .u8 t2, .int .u8 t3, .int .u8 t4, .int .u8 t5]] w fun x w' => x = .returned (.bool (tk m0 m1 m2 m3 m4 m5 t0 t1 t2 t3 t4 t5 G)) ∧ Only [] w w' := by
  have hll := hl.len
  have HG := hid hl; clear hl
  have HW := hid hG; clear hG
  have OM : Hid (Ob ((w.alloc (.cells #[.int .u8 m0, .int .u8 m1, .int .u8 m2, .int .u8 m3, .int .u8 m4, .int .u8 m5] 23)).alloc (.cells #[.int .u8 t0, .int .u8 t1, .int .u8 t2, .int .u8 t3, .int .u8 t4, .int .u8 t5] 23)) w.heap.size 23 #[.int .u8 m0, .int .u8 m1, .int .u8 m2, .int .u8 m3, .int .u8 m4, .int .u8 m5]) := hid ((Ob.new _ _ _).alloc _)
  have OT : Hid (Ob ((w.alloc (.cells #[.int .u8 m0, .int .u8 m1, .int .u8 m2, .int .u8 m3, .int .u8 m4, .int .u8 m5] 23)).alloc (.cells #[.int .u8 t0, .int .u8 t1, .int .u8 t2, .int .u8 t3, .int .u8 t4, .int .u8 t5] 23)) (w.heap.size + 1) 23 #[.int .u8 t0, .int .u8 t1, .int .u8 t2, .int .u8 t3, .int .u8 t4, .int .u8 t5]) := hid (by simpa using Ob.new (w.alloc (.cells #[.int .u8 m0, .int .u8 m1, .int .u8 m2, .int .u8 m3, .int .u8 m4, .int .u8 m5] 23)) 23 #[.int .u8 t0, .int .u8 t1, .int .u8 t2, .int .u8 t3, .int .u8 t4, .int .u8 t5])
  have QB : Hid (Only [] w ((w.alloc (.cells #[.int .u8 m0, .int .u8 m1, .int .u8 m2, .int .u8 m3, .int .u8 m4, .int .u8 m5] 23)).alloc (.cells #[.int .u8 t0, .int .u8 t1, .int .u8 t2, .int .u8 t3, .int .u8 t4, .int .u8 t5] 23))) := hid (((Only.refl [] w).alloc _).alloc _)
  have HT : Hid (tk m0 m1 m2 m3 m4 m5 t0 t1 t2 t3 t4 t5 G = (eqM t0 t1 t2 t3 t4 t5 m0 m1 m2 m3 m4 m5 || (eqM t0 t1 t2 t3 t4 t5 255 255 255 255 255 255 || inG G t0 t1 t2 t3 t4 t5))) := hid rfl
  have k0 := OT.out.cell 0; have j0 := OM.out.cell 0; have k1 := OT.out.cell 1; have j1 := OM.out.cell 1; have k2 := OT.out.cell 2; have j2 := OM.out.cell 2; have k3 := OT.out.cell 3; have j3 := OM.out.cell 3; have k4 := OT.out.cell 4; have j4 := OM.out.cell 4; have k5 := OT.out.cell 5; have j5 := OM.out.cell 5
  generalize tk m0 m1 m2 m3 m4 m5 t0 t1 t2 t3 t4 t5 G = res at *
  cases h1 : eqM t0 t1 t2 t3 t4 t5 m0 m1 m2 m3 m4 m5 with
  | true =>
    have E1 := fun W => eth_eq W t0 t1 t2 t3 t4 t5 m0 m1 m2 m3 m4 m5 _ h1
    have HX := hid h1; clear h1
    go_enter Try.func24, Try.ntmps24
    go_wp2
    go_ret
    exact ⟨rBool (by rw [HT.out, HX.out]; rfl), QB.out⟩
  | false =>
    have E1 := fun W => eth_eq W t0 t1 t2 t3 t4 t5 m0 m1 m2 m3 m4 m5 _ h1
    have HX := hid h1; clear h1
    cases h2 : eqM t0 t1 t2 t3 t4 t5 255 255 255 255 255 255 with
    | true =>
      have E2 := fun W => eth_eq W t0 t1 t2 t3 t4 t5 255 255 255 255 255 255 _ h2
      have HY := hid h2; clear h2
      go_enter Try.func24, Try.ntmps24
      go_wp2
      go_ret
      exact ⟨rBool (by rw [HT.out, HX.out, HY.out]; rfl), QB.out⟩
    | false =>
      have E2 := fun W => eth_eq W t0 t1 t2 t3 t4 t5 255 255 255 255 255 255 _ h2
      have HY := hid h2; clear h2
      have HR : Hid (res = inG G t0 t1 t2 t3 t4 t5) := hid (by rw [HT.out, HX.out, HY.out]; rfl)
      clear HT HX HY
      go_enter Try.func24, Try.ntmps24
      go_wp2
      clear k0 k1 k2 k3 k4 k5 j0 j1 j2 j3 j4 j5 E1 E2
      have QB0 := hid QB.out; have OT0 := hid OT.out
      clear QB OT OM
      generalize ((w.alloc (.cells #[.int .u8 m0, .int .u8 m1, .int .u8 m2, .int .u8 m3, .int .u8 m4, .int .u8 m5] 23)).alloc (.cells #[.int .u8 t0, .int .u8 t1, .int .u8 t2, .int .u8 t3, .int .u8 t4, .int .u8 t5] 23)) = W1 at *
      go_loopw [7] (fun i wr => ∃ k : Nat, k ≤ n ∧ i = .int .i64 k ∧ Hid (inG (G.take k) t0 t1 t2 t3 t4 t5 = false) ∧ Hid (Only [] W1 wr)) (fun i _ => n - (intOf i).toNat)
      case atStart => exact ⟨0, by omega, rfl, hid (by simp [inG]), hid (Only.refl _ _)⟩
      case round =>
      obtain ⟨k, hk, rfl, HF, HB⟩ := hrel
      have QB := hid (QB0.out.trans HB.out)
      have OT := hid (OT0.out.only HB.out (by simp))
      by_cases hlt : k < n
      · obtain ⟨b, off, rfl, hb, hc⟩ := (HG.out.only_nil QB.out).at_ (by omega)
        have q0 := hc k hlt
        have hg := HW.out (G.getD k 0) (by rw [List.getD_eq_getElem?_getD, List.getElem?_eq_getElem (by omega)]; exact List.getElem_mem _)
        have HS := hid (inG_succ G k (by omega) t0 t1 t2 t3 t4 t5)
        have HI := hid (inG_in G k (by omega) t0 t1 t2 t3 t4 t5)
        have hlti : (k : Int) < n := by omega
        obtain ⟨g, hgk⟩ : ∃ g, G.getD k 0 = g := ⟨_, rfl⟩
        rw [hgk] at q0 hg HS HI
        have HK := hid hgk; clear hgk hc
        cases h3 : eqM t0 t1 t2 t3 t4 t5 1 0 94 (g / 65536 % 128) (g / 256 % 256) (g % 256) with
        | true =>
          have E3 := fun W => eth_eq W 1 0 94 (g / 65536 % 128) (g / 256 % 256) (g % 256) t0 t1 t2 t3 t4 t5 true (by rw [eqM_comm]; exact h3)
          have HX := hid h3; clear h3
          go_wp2_with fail
          refine wp_region_noPanic ?_
          refine rgn.regionT (R := Only []) (by kernel_rfl) (Only.refl []) (fun _ _ _ => Only.trans) (fun _ _ _ _ _ h => h) (.y 0 (.y 1 (.y 2 (.y 3 (.y 5 (.e 4 (.y 6 .z))))))) (by kernel_rfl) (fun W hWd => ?_)
          have HWd := hid hWd; clear hWd
          have OT := hid (OT.out.eq_drew HWd.out); have QB := hid (QB.out.eq_drew HWd.out); have HB := hid (HB.out.eq_drew HWd.out)
          clear HWd
          refine rgn.Walk.ys (v := ?_) rfl rfl rfl ?_ ?_
          rotate_left 1
          · intro W' hW'
            go_simp
            try with_reducible rfl
          try simp only [Act.put, List.setIfInBounds_toArray, List.set_cons_zero, List.set_cons_succ]
          refine rgn.Walk.ys (v := ?_) rfl rfl rfl ?_ ?_
          rotate_left 1
          · intro W' hW'
            go_simp
            try with_reducible rfl
          try simp only [Act.put, List.setIfInBounds_toArray, List.set_cons_zero, List.set_cons_succ]
          refine rgn.Walk.ys (v := ?_) rfl rfl rfl ?_ ?_
          rotate_left 1
          · intro W' hW'
            go_simp
            try with_reducible rfl
          try simp only [Act.put, List.setIfInBounds_toArray, List.set_cons_zero, List.set_cons_succ]
          refine rgn.Walk.ys (v := ?_) rfl rfl rfl ?_ ?_
          rotate_left 1
          · intro W' hW'
            have q0 := (HG.out.only_nil (QB.out.trans hW')).cellD k hlt
            rw [HK.out] at q0
            go_simp
            try with_reducible rfl
          try simp only [Act.put, List.setIfInBounds_toArray, List.set_cons_zero, List.set_cons_succ]
          refine rgn.Walk.ys rfl rfl rfl (fun W' hW' => exec_load 23 _ rfl _ rfl _ _ (OT.out.only hW' (by simp)) Try.underlying23 rfl (by kernel_rfl)) ?_
          try simp only [Act.put, List.setIfInBounds_toArray, List.set_cons_zero, List.set_cons_succ]
          refine rgn.Walk.es ?_
          refine rgn.stepE rfl rfl (fun K hK => ?_)
          go_simp
          refine (og2 _ g hg).mono ?_
          rintro x w3 ⟨rfl, o3⟩
          refine hK _ _ o3 ?_
          clear hK K
          try simp only [Act.put, List.setIfInBounds_toArray, List.set_cons_zero, List.set_cons_succ]
          have OT := hid (OT.out.only o3 (by simp)); have QB := hid (QB.out.trans o3); have HB := hid (HB.out.trans o3); clear o3
          refine rgn.Walk.ys (v := ?_) rfl rfl rfl ?_ ?_
          rotate_left 1
          · intro W' hW'
            go_simp
            try with_reducible rfl
          try simp only [Act.put, List.setIfInBounds_toArray, List.set_cons_zero, List.set_cons_succ]
          refine rgn.Walk.zs (NoPanic.normal ?_)
          go_wp2
          go_ret
          exact ⟨rBool (by rw [HR.out, HI.out HX.out]), QB.out⟩
        | false =>
          have E3 := fun W => eth_eq W 1 0 94 (g / 65536 % 128) (g / 256 % 256) (g % 256) t0 t1 t2 t3 t4 t5 false (by rw [eqM_comm]; exact h3)
          have HX := hid h3; clear h3
          go_wp2_with fail
          refine wp_region_noPanic ?_
          refine rgn.regionT (R := Only []) (by kernel_rfl) (Only.refl []) (fun _ _ _ => Only.trans) (fun _ _ _ _ _ h => h) (.y 0 (.y 1 (.y 2 (.y 3 (.y 5 (.e 4 (.y 6 .z))))))) (by kernel_rfl) (fun W hWd => ?_)
          have HWd := hid hWd; clear hWd
          have OT := hid (OT.out.eq_drew HWd.out); have QB := hid (QB.out.eq_drew HWd.out); have HB := hid (HB.out.eq_drew HWd.out)
          clear HWd
          refine rgn.Walk.ys (v := ?_) rfl rfl rfl ?_ ?_
          rotate_left 1
          · intro W' hW'
            go_simp
            try with_reducible rfl
          try simp only [Act.put, List.setIfInBounds_toArray, List.set_cons_zero, List.set_cons_succ]
          refine rgn.Walk.ys (v := ?_) rfl rfl rfl ?_ ?_
          rotate_left 1
          · intro W' hW'
            go_simp
            try with_reducible rfl
          try simp only [Act.put, List.setIfInBounds_toArray, List.set_cons_zero, List.set_cons_succ]
          refine rgn.Walk.ys (v := ?_) rfl rfl rfl ?_ ?_
          rotate_left 1
          · intro W' hW'
            go_simp
            try with_reducible rfl
          try simp only [Act.put, List.setIfInBounds_toArray, List.set_cons_zero, List.set_cons_succ]
          refine rgn.Walk.ys (v := ?_) rfl rfl rfl ?_ ?_
          rotate_left 1
          · intro W' hW'
            have q0 := (HG.out.only_nil (QB.out.trans hW')).cellD k hlt
            rw [HK.out] at q0
            go_simp
            try with_reducible rfl
          try simp only [Act.put, List.setIfInBounds_toArray, List.set_cons_zero, List.set_cons_succ]
          refine rgn.Walk.ys rfl rfl rfl (fun W' hW' => exec_load 23 _ rfl _ rfl _ _ (OT.out.only hW' (by simp)) Try.underlying23 rfl (by kernel_rfl)) ?_
          try simp only [Act.put, List.setIfInBounds_toArray, List.set_cons_zero, List.set_cons_succ]
          refine rgn.Walk.es ?_
          refine rgn.stepE rfl rfl (fun K hK => ?_)
          go_simp
          refine (og2 _ g hg).mono ?_
          rintro x w3 ⟨rfl, o3⟩
          refine hK _ _ o3 ?_
          clear hK K
          try simp only [Act.put, List.setIfInBounds_toArray, List.set_cons_zero, List.set_cons_succ]
          have OT := hid (OT.out.only o3 (by simp)); have QB := hid (QB.out.trans o3); have HB := hid (HB.out.trans o3); clear o3
          refine rgn.Walk.ys (v := ?_) rfl rfl rfl ?_ ?_
          rotate_left 1
          · intro W' hW'
            go_simp
            try with_reducible rfl
          try simp only [Act.put, List.setIfInBounds_toArray, List.set_cons_zero, List.set_cons_succ]
          refine rgn.Walk.zs (NoPanic.normal ?_)
          go_wp2
          go_roundw
          case rel => exact ⟨k + 1, by omega, by go_num, hid (by rw [HS.out, HF.out, HX.out]; rfl), HB⟩
          case measure => simp [intOf]; omega
      · have hkn : k = n := by omega
        subst hkn
        have HE : Hid (inG G t0 t1 t2 t3 t4 t5 = false) := hid (by have h := HF.out; rwa [List.take_of_length_le (by omega)] at h)
        go_wp2
        go_ret
        exact ⟨rBool (by rw [HR.out, HE.out]), QB.out⟩
end Go.Proofs.Ytiihhngddmboaaa.eth
