/-
  Chapter 11 (udp): the document's own Encode, by a walk of its text. Conditions: none but those typed.
-/
import Derived.Test.YtnhakcgkhhficaaUdpB
import Derived.Test.YtnhakcgkhhficaaRga
namespace Go.Proofs.Ytnhakcgkhhficaa.udp
set_option linter.unusedVariables false
set_option linter.unusedSimpArgs false
open Go.ChangeShapes Go.WideShapes Go.ChangeAt Go.RowKit Go.IntWalk Go.Lib
set_option maxRecDepth 100000 in
set_option maxHeartbeats 8000000 in
theorem renc (w : World) (fr fp to tp : Int) (A : Option Addr) (n c : Nat) (l : List Int) (hl : Rd .u8 w A n l) (hc0 : A = none → c = 0) (hg : Good fp tp) (hn : n ≤ 65507) :
    Calls Try.prog 21 #[.agg #[.int .u32 fr, .int .i64 fp, .int .u32 to, .int .i64 tp, .slice A n c]] w fun x w' => ∃ v, x = .returned (.tuple #[v, .int .i64 0]) ∧ Own .u8 5 w' w.heap.size v (encU fr fp to tp l) ∧ Only [] w w' := by
  have OB : Hid (Ob (w.alloc (.cells #[.int .u32 fr, .int .i64 fp, .int .u32 to, .int .i64 tp, .slice A n c] 32)) w.heap.size 32 #[.int .u32 fr, .int .i64 fp, .int .u32 to, .int .i64 tp, .slice A n c]) := hid (Ob.new _ _ _)
  have B : Hid (Below w.heap.size w (w.alloc (.cells #[.int .u32 fr, .int .i64 fp, .int .u32 to, .int .i64 tp, .slice A n c] 32))) := hid ((Below.refl _ _).alloc (Nat.le_refl _) _)
  have HLen := hid hl.len
  have HL := hid hl; clear hl
  have HC := hid hc0; clear hc0
  have HG := hid hg
  obtain ⟨⟨g1, g2⟩, g3, g4⟩ := hg
  have hnn : ¬ 65507 < n := by omega
  have hnn' : ¬ 65507 < (n : Int) := by omega
  have hbs : w.heap.size < (w.alloc (.cells #[.int .u32 fr, .int .i64 fp, .int .u32 to, .int .i64 tp, .slice A n c] 32)).heap.size := OB.out.lt
  have QO := hid (Only.of_below B.out (S := []))
  have B2 : Hid (Below (w.alloc (.cells #[.int .u32 fr, .int .i64 fp, .int .u32 to, .int .i64 tp, .slice A n c] 32)).heap.size (w.alloc (.cells #[.int .u32 fr, .int .i64 fp, .int .u32 to, .int .i64 tp, .slice A n c] 32)) (w.alloc (.cells #[.int .u32 fr, .int .i64 fp, .int .u32 to, .int .i64 tp, .slice A n c] 32))) := hid (Below.refl _ _)
  go_enter Try.func21, Try.ntmps21
  have OBc := hid OB.out; have k0 := OBc.out.cell 0; have k1 := OBc.out.cell 1; have k2 := OBc.out.cell 2; have k3 := OBc.out.cell 3; have k4 := OBc.out.cell 4
  go_wp2_with fail
  clear k0 k1 k2 k3 k4
  refine wp_region_noPanic ?_
  refine rgn.regionT (R := Same w.heap.size) (by kernel_rfl) (Same.refl w.heap.size) (Same.trans (g := w.heap.size)) (fun _ _ _ _ _ h => h) (.y 0 (.y 1 (.y 3 (.y 4 (.e 2 (.e 5 (.e 6 (.e 7 .z)))))))) (by kernel_rfl) (fun W hWd => ?_)
  have HWd := hid hWd; clear hWd
  have B2 := hid (show Below _ _ W from by rw [HWd.out]; exact B2.out.drew)
  clear HWd
  refine rgn.Walk.ys (v := ?_) rfl rfl rfl ?_ ?_
  rotate_left 1
  · intro W' hW'
    go_simp
    try with_reducible rfl
  try simp only [Act.put, List.setIfInBounds_toArray, List.set_cons_zero, List.set_cons_succ]
  refine rgn.Walk.ys (v := ?_) rfl rfl rfl ?_ ?_
  rotate_left 1
  · intro W' hW'
    have q0 := ((OB.out.same (show Same w.heap.size _ _ from B2.out.block _ hbs)).same hW').cell 1
    go_simp
    try with_reducible rfl
  try simp only [Act.put, List.setIfInBounds_toArray, List.set_cons_zero, List.set_cons_succ]
  refine rgn.Walk.ys (v := ?_) rfl rfl rfl ?_ ?_
  rotate_left 1
  · intro W' hW'
    go_simp
    try with_reducible rfl
  try simp only [Act.put, List.setIfInBounds_toArray, List.set_cons_zero, List.set_cons_succ]
  refine rgn.Walk.ys (v := ?_) rfl rfl rfl ?_ ?_
  rotate_left 1
  · intro W' hW'
    have q0 := ((OB.out.same (show Same w.heap.size _ _ from B2.out.block _ hbs)).same hW').cell 3
    go_simp
    try with_reducible rfl
  try simp only [Act.put, List.setIfInBounds_toArray, List.set_cons_zero, List.set_cons_succ]
  refine rgn.Walk.es ?_
  refine rgn.stepE rfl rfl (fun K hK => ?_)
  go_simp
  refine (ref.two1 _ fp).mono ?_
  rintro x w21 ⟨g21, rfl, h21, o21⟩
  refine hK _ _ (Same.only o21 (by have := B2.out.size; omega)) ?_
  clear hK K
  try simp only [Act.put, List.setIfInBounds_toArray, List.set_cons_zero, List.set_cons_succ]
  have P1 := hid (h21.mono_base (show (w.alloc (.cells #[.int .u32 fr, .int .i64 fp, .int .u32 to, .int .i64 tp, .slice A n c] 32)).heap.size ≤ _ from (by have := B2.out.size; omega))); have B2 := hid (B2.out.trans (o21.below_nil.mono (by have := B2.out.size; omega)))
  clear h21 o21
  refine rgn.Walk.es ?_
  refine rgn.stepE rfl rfl (fun K hK => ?_)
  go_simp
  refine (ref.two1 _ tp).mono ?_
  rintro x w22 ⟨g22, rfl, h22, o22⟩
  refine hK _ _ (Same.only o22 (by have := B2.out.size; omega)) ?_
  clear hK K
  try simp only [Act.put, List.setIfInBounds_toArray, List.set_cons_zero, List.set_cons_succ]
  have P1 := hid (P1.out.only_nil o22)
  have P2 := hid (h22.mono_base (show (w.alloc (.cells #[.int .u32 fr, .int .i64 fp, .int .u32 to, .int .i64 tp, .slice A n c] 32)).heap.size ≤ _ from (by have := B2.out.size; omega))); have B2 := hid (B2.out.trans (o22.below_nil.mono (by have := B2.out.size; omega)))
  clear h22 o22
  refine rgn.Walk.es ?_
  refine rgn.stepE rfl rfl (fun K hK => ?_)
  refine opApp rfl (.tmp 30) (.tmp 33) _ rfl hlp.elemB _ _ (ref.two fp) rfl P1.out (some ⟨g22, 0, none⟩) 2 2 (ref.two tp) rfl (P2.out.rd) (by simp) (by first | (simp [ref.two]; done) | (simp [ref.two]; omega) | omega) (by unfold maxLen; first | (simp [ref.two]; done) | (simp [ref.two]; omega) | omega) (by have := B2.out.size; omega) ?_
  intro v23 w23 hv hg hb
  refine hK _ _ (Same.grown hg (by have := B2.out.size; omega) (fun e => by have := (P1.out.lt _ e).1; omega)) ?_
  clear hK K
  try simp only [Act.put, List.setIfInBounds_toArray, List.set_cons_zero, List.set_cons_succ]
  have B2 := hid (B2.out.grown hg (by have := B2.out.size; omega) (fun k hk => (P1.out.lt k hk).1)); have VB := hid hv
  clear hv hg hb
  refine rgn.Walk.es ?_
  refine rgn.stepE rfl rfl (fun K hK => ?_)
  go_simp
  refine hK _ _ ((Same.refl w.heap.size) _) ?_
  clear hK K
  try simp only [Act.put, List.setIfInBounds_toArray, List.set_cons_zero, List.set_cons_succ]
  refine rgn.Walk.zs (NoPanic.normal ?_)
  clear P1 P2
  have OBc := hid (OB.out.same (show Same w.heap.size _ _ from B2.out.block _ hbs)); have k0 := OBc.out.cell 0; have k1 := OBc.out.cell 1; have k2 := OBc.out.cell 2; have k3 := OBc.out.cell 3; have k4 := OBc.out.cell 4
  go_wp2_with fail
  refine (ref.two1 _ (8 + (n : Int))).mono ?_
  rintro x w51 ⟨g51, rfl, h51, o51⟩
  clear k0 k1 k2 k3 k4
  have VB := hid (VB.out.only_nil o51); have P1 := hid (h51.mono_base (show (w.alloc (.cells #[.int .u32 fr, .int .i64 fp, .int .u32 to, .int .i64 tp, .slice A n c] 32)).heap.size ≤ _ from (by have := B2.out.size; omega))); have B2 := hid (B2.out.trans (o51.below_nil.mono (by have := B2.out.size; omega))); clear h51 o51
  go_wp2_with (at_builtin; refine wpList_app _ rfl (.tmp 35) (.tmp 40) _ rfl hlp.elemB ((w.alloc (.cells #[.int .u32 fr, .int .i64 fp, .int .u32 to, .int .i64 tp, .slice A n c] 32)).heap.size) _ (ref.two fp ++ ref.two tp) rfl ?c52a (some ⟨g51, 0, none⟩) 2 2 (ref.two (8 + (n : Int))) rfl ?c52b ?c52c ?c52d ?c52e ?c52f ?_)
  case c52a => exact VB.out
  case c52b => exact P1.out.rd
  case c52c => simp
  case c52d => first | (simp [ref.two]; done) | (simp [ref.two]; omega) | omega
  case c52e => unfold maxLen; first | (simp [ref.two]; done) | (simp [ref.two]; omega) | omega
  case c52f => exact (by have := B2.out.size; omega)
  intro v52 W52 hv hg hb
  have B2 := hid (B2.out.grown hg (by have := B2.out.size; omega) (fun k hk => (VB.out.lt k hk).1)); have VB : Hid (Own .u8 5 W52 (w.alloc (.cells #[.int .u32 fr, .int .i64 fp, .int .u32 to, .int .i64 tp, .slice A n c] 32)).heap.size v52 (ref.two fp ++ ref.two tp ++ ref.two (8 + (n : Int)))) := hid (by simpa using hv)
  clear hv hg hb
  have VL : Hid (Own .u8 5 (W52.alloc (.cells #[.int .u8 0, .int .u8 0] 5)) (w.alloc (.cells #[.int .u32 fr, .int .i64 fp, .int .u32 to, .int .i64 tp, .slice A n c] 32)).heap.size (.slice (some ⟨W52.heap.size, 0, none⟩) 2 2) [0, 0]) := hid (Own.lit .u8 5 W52 (w.alloc (.cells #[.int .u32 fr, .int .i64 fp, .int .u32 to, .int .i64 tp, .slice A n c] 32)).heap.size [0, 0] _ 2 rfl rfl (by have := B2.out.size; omega) (by simp [maxLen]) (by intro z hz; simp at hz; apply hlp.u8wf; omega))
  have B2 := hid (B2.out.alloc (by have := B2.out.size; omega) (.cells #[.int .u8 0, .int .u8 0] 5)); have VB := hid (VB.out.alloc (.cells #[.int .u8 0, .int .u8 0] 5))
  go_wp2_with (at_builtin; refine wpList_app _ rfl (.tmp 41) (.tmp 42) _ rfl hlp.elemB ((w.alloc (.cells #[.int .u32 fr, .int .i64 fp, .int .u32 to, .int .i64 tp, .slice A n c] 32)).heap.size) _ (ref.two fp ++ ref.two tp ++ ref.two (8 + (n : Int))) rfl ?c53a (some ⟨W52.heap.size, 0, none⟩) 2 2 ([0, 0]) rfl ?c53b ?c53c ?c53d ?c53e ?c53f ?_)
  case c53a => exact VB.out
  case c53b => exact VL.out.rd
  case c53c => simp
  case c53d => first | (simp [ref.two]; done) | (simp [ref.two]; omega) | omega
  case c53e => unfold maxLen; first | (simp [ref.two]; done) | (simp [ref.two]; omega) | omega
  case c53f => exact (by have := B2.out.size; omega)
  intro v53 W53 hv hg hb
  have B2 := hid (B2.out.grown hg (by have := B2.out.size; omega) (fun k hk => (VB.out.lt k hk).1)); have VB : Hid (Own .u8 5 W53 (w.alloc (.cells #[.int .u32 fr, .int .i64 fp, .int .u32 to, .int .i64 tp, .slice A n c] 32)).heap.size v53 (ref.two fp ++ ref.two tp ++ ref.two (8 + (n : Int)) ++ [0, 0])) := hid (by simpa using hv)
  clear hv hg hb
  clear VL P1
  have OBc := hid (OB.out.same (show Same w.heap.size _ _ from B2.out.block _ hbs)); have k0 := OBc.out.cell 0; have k1 := OBc.out.cell 1; have k2 := OBc.out.cell 2; have k3 := OBc.out.cell 3; have k4 := OBc.out.cell 4
  go_wp2_with (at_builtin; refine wpList_app _ rfl (.tmp 44) (.tmp 46) _ rfl hlp.elemB ((w.alloc (.cells #[.int .u32 fr, .int .i64 fp, .int .u32 to, .int .i64 tp, .slice A n c] 32)).heap.size) _ (ref.two fp ++ ref.two tp ++ ref.two (8 + (n : Int)) ++ [0, 0]) rfl ?c54a A n c (l) rfl ?c54b ?c54c ?c54d ?c54e ?c54f ?_)
  case c54a => exact VB.out
  case c54b => exact (HL.out.below B.out (Nat.le_refl _)).below B2.out (Nat.le_refl _)
  case c54c => exact HC.out
  case c54d => first | (simp [ref.two]; done) | (simp [ref.two]; omega) | omega
  case c54e => unfold maxLen; first | (simp [ref.two]; done) | (simp [ref.two]; omega) | omega
  case c54f => exact (by have := B2.out.size; omega)
  intro v54 W54 hv hg hb
  have B2 := hid (B2.out.grown hg (by have := B2.out.size; omega) (fun k hk => (VB.out.lt k hk).1)); have VB : Hid (Own .u8 5 W54 (w.alloc (.cells #[.int .u32 fr, .int .i64 fp, .int .u32 to, .int .i64 tp, .slice A n c] 32)).heap.size v54 (ref.two fp ++ ref.two tp ++ ref.two (8 + (n : Int)) ++ [0, 0] ++ l)) := hid (by simpa using hv)
  clear hv hg hb
  clear k0 k1 k2 k3 k4
  have HB0 : Hid (ref.two fp ++ ref.two tp ++ ref.two (8 + (n : Int)) ++ [0, 0] ++ l = body fp tp 0 l) := hid (by simp [ref.two, body, HLen.out])
  have VB : Hid (Own .u8 5 _ (w.alloc (.cells #[.int .u32 fr, .int .i64 fp, .int .u32 to, .int .i64 tp, .slice A n c] 32)).heap.size _ (body fp tp 0 l)) := hid (HB0.out ▸ VB.out)
  have hbl : (body fp tp 0 l).length = (8 + n) := by rw [body_len, HLen.out]
  have HBL := hid hbl
  obtain ⟨g, cap, e2⟩ := VB.out.some_form (by rw [hbl]; omega)
  rw [hbl] at e2
  subst e2
  have HSM : Hid (oct.sumF (psd.psd fr to 17 ((8 + n) : Nat) ++ body fp tp 0 l) = sumU fr fp to tp l) := hid (by unfold sumU; rw [HLen.out])
  have hsb : 0 ≤ sumU fr fp to tp l ∧ sumU fr fp to tp l ≤ 65535 := by
    rw [← HSM.out]
    have hw := VB.out.2
    have := oct.F_bd (oct.ws (psd.psd fr to 17 ((8 + n) : Nat) ++ body fp tp 0 l)) (oct.ws_bd _ (fun z hz => by
      rcases List.mem_append.1 hz with h | h
      · exact psd.psd_wf _ _ _ _ z h
      · exact u8Bd (hw z h))).1
    unfold oct.sumF; omega
  have HSB := hid hsb
  have HE : Hid (encU fr fp to tp l = ((body fp tp 0 l).set 6 (fixU (sumU fr fp to tp l) / 256)).set 7 (fixU (sumU fr fp to tp l) % 256)) := hid (by
    unfold encU
    have : fixU (sumU fr fp to tp l) / 256 % 256 = fixU (sumU fr fp to tp l) / 256 := by unfold fixU; split <;> omega
    simp [body, this])
  clear hsb hbl
  have OBc := hid (OB.out.same (show Same w.heap.size _ _ from B2.out.block _ hbs)); have k0 := OBc.out.cell 0; have k1 := OBc.out.cell 1; have k2 := OBc.out.cell 2; have k3 := OBc.out.cell 3; have k4 := OBc.out.cell 4
  go_wp2_with fail
  refine (psd.summed1 _ fr to 17 (some ⟨g, 0, none⟩) (8 + n) cap _ VB.out.rd (by omega) (by omega)).mono ?_
  rintro x w70 ⟨rfl, o70⟩
  rw [HSM.out]
  have VB := hid (VB.out.only_nil o70); have B2 := hid (B2.out.trans (o70.below_nil.mono (by have := B2.out.size; omega))); clear o70
  clear k0 k1 k2 k3 k4
  obtain ⟨hs1, hs2⟩ := HSB.out
  have c2 := VB.out.cellD 6 (by omega)
  have f2 := VB.out.frozen 6
  have hlow := VB.out.base_le.1
  have hlow2 : w.heap.size ≤ g := by have := QO.out.size; omega
  have Q4 := hid ((Only.of_below (S := []) (show Below w.heap.size w w70 from B.out.trans (B2.out.mono QO.out.size))))
  have hi6 : (6 : Int) < 8 + (n : Int) := by omega
  have hi7 : (7 : Int) < 8 + (n : Int) := by omega
  by_cases hz : sumU fr fp to tp l = 0
  · have HF : Hid (fixU (sumU fr fp to tp l) = 65535) := hid (by unfold fixU; rw [if_pos hz])
    rw [hz]
    clear hz
    have V4 := hid (VB.out.set 6 255 (hlp.u8wf (by omega)))
    have c3 := V4.out.cellD 7 (by omega)
    have f3 := V4.out.frozen 7
    have V5 := hid (V4.out.set 7 255 (hlp.u8wf (by omega)))
    have Q5 := hid ((Q4.out.setCell (p := ⟨g, 6, none⟩) (Or.inr hlow2) (.int .u8 255)).setCell (p := ⟨g, 7, none⟩) (Or.inr hlow2) (.int .u8 255))
    go_wp2
    go_ret2
    exact ⟨_, rfl, by rw [HE.out, HF.out]; exact V5.out.mono_base (by have := QO.out.size; omega), Q5.out⟩
  · have HF : Hid (fixU (sumU fr fp to tp l) = sumU fr fp to tp l) := hid (by unfold fixU; rw [if_neg hz])
    have hzb : (sumU fr fp to tp l == 0) = false := by simpa using hz
    clear hz
    generalize sumU fr fp to tp l = s at *
    have V4 := hid (VB.out.set 6 (s / 256) (hlp.u8wf (by omega)))
    have c3 := V4.out.cellD 7 (by omega)
    have f3 := V4.out.frozen 7
    have V5 := hid (V4.out.set 7 (s % 256) (hlp.u8wf (by omega)))
    have Q5 := hid ((Q4.out.setCell (p := ⟨g, 6, none⟩) (Or.inr hlow2) (.int .u8 (s / 256))).setCell (p := ⟨g, 7, none⟩) (Or.inr hlow2) (.int .u8 (s % 256)))
    go_wp2
    go_ret2
    exact ⟨_, rfl, by rw [HE.out, HF.out]; exact V5.out.mono_base (by have := QO.out.size; omega), Q5.out⟩
end Go.Proofs.Ytnhakcgkhhficaa.udp
