/-
  Chapter 6 (ipv4): an address's text in the document's words, by a walk of its text; a law: every address has its text, which is read as it. Conditions: none but those typed.
-/
import Derived.Test.YtaoeflngdlgboaaDoorIpO
import Derived.Laws.BytesArg
namespace Go.Proofs.YtaoeflngdlgboaaDoor.ip
set_option linter.unusedVariables false
set_option linter.unusedSimpArgs false
open Go.ChangeShapes Go.WideShapes Go.ChangeAt Go.RowKit Go.IntWalk Go.Lib
theorem conv1 (W : World) (b c : Nat) (x : Int) (h : W.cell? ⟨b, 0, none⟩ = some (.int .u8 x)) : (Go.convert 24 9 (.slice (some ⟨b, 0, none⟩) 1 c)).run Tryd.prog W = .ok (.string ⟨#[UInt8.ofNat x.toNat]⟩) W := by
  have hc : ∀ i, i < 1 → W.cell? ⟨b, 0 + i, none⟩ = some (.int .u8 ([x].getD i 0)) := fun i hi => by
    obtain rfl : i = 0 := by omega
    exact h
  have := run_convert_bytes_arg (P := Tryd.prog) W 24 5 Tryd.underlying24 Tryd.underlying5 b 0 1 c [x] rfl hc 9 Tryd.underlying9
  rw [this]
  rfl
set_option maxHeartbeats 1000000 in
theorem digA (w : World) (v : Int) (h : 0 ≤ v ∧ v ≤ 9) : Calls Tryd.prog 43 #[.int .i64 v] w fun x w' => x = .returned (.string ⟨#[UInt8.ofNat (48 + v).toNat]⟩) ∧ Only [] w w' := by
  have h1 : v < 10 := by omega
  have h2 : IntKind.u8.wrap (48 + v) = 48 + v := u8_in _ (by omega)
  have h3 : IntKind.i64.wrap (48 + v) = 48 + v := i64_in _ (by omega)
  have h4 : wrap64 (48 + v) = 48 + v := wrap64_in _ (by omega)
  have hx := conv1 (w.alloc (.cells #[.int .u8 (48 + v)] 5)) w.heap.size 1 (48 + v) (by simp)
  have hq : Only [] w (w.alloc (.cells #[.int .u8 (48 + v)] 5)) := (Only.refl [] w).alloc _
  have HQ := hid hq; clear hq
  go_enter Tryd.func43, Tryd.ntmps43
  go_wp2
  go_ret
  exact ⟨rfl, HQ.out⟩
set_option maxRecDepth 100000 in
set_option maxHeartbeats 2000000 in
theorem digB (w : World) (v q r : Int) (s : ByteArray) (h : ¬ v < 10) (hq : v.tdiv 10 = q) (hr : v.tmod 10 = r) (hq0 : 0 ≤ q ∧ q ≤ 1000) (hr0 : 0 ≤ r ∧ r ≤ 9) (hs : s.size ≤ 1000) (hd : ∀ W, Calls Tryd.prog 43 #[.int .i64 q] W fun x w' => x = .returned (.string s) ∧ Only [] W w') :
    Calls Tryd.prog 43 #[.int .i64 v] w fun x w' => x = .returned (.string (s ++ ⟨#[UInt8.ofNat (48 + r).toNat]⟩)) ∧ Only [] w w' := by
  have HD := hid hd; clear hd
  have z1 : ¬ 9223372036854775807 < s.size + 1 := by omega
  have QB : Hid (Only [] w w) := hid (Only.refl [] w)
  have h2 : IntKind.u8.wrap (48 + r) = 48 + r := u8_in _ (by omega)
  have h3 : IntKind.i64.wrap (48 + r) = 48 + r := i64_in _ (by omega)
  have h4 : wrap64 (48 + r) = 48 + r := wrap64_in _ (by omega)
  have h5 : IntKind.i64.wrap q = q := i64_in _ (by omega)
  have h6 : wrap64 q = q := wrap64_in _ (by omega)
  have h7 : IntKind.i64.wrap r = r := i64_in _ (by omega)
  have h8 : wrap64 r = r := wrap64_in _ (by omega)
  go_enter Tryd.func43, Tryd.ntmps43
  go_wp2_with fail
  refine wp_region_noPanic ?_
  refine rgn.regionT (R := Only []) (by kernel_rfl) (Only.refl []) (fun _ _ _ => Only.trans) (fun _ _ _ _ _ h => h) (.y 0 (.y 1 (.y 3 (.y 4 (.y 5 (.y 6 (.b 2 7 (.e 7 (.y 8 (.y 9 (.e 10 .z)))) (.y 8 (.e 2 (.y 9 (.e 10 .z))))))))))) (by kernel_rfl) (fun W hWd => ?_)
  have HWd := hid hWd; clear hWd
  have QB := hid (QB.out.eq_drew HWd.out)
  clear HWd
  refine rgn.Walk.ys (v := ?_) rfl rfl rfl ?_ ?_
  rotate_left 1
  · intro W' hW'
    go_simp
    try with_reducible rfl
  try simp only [Act.put, List.setIfInBounds_toArray, List.set_cons_zero, List.set_cons_succ]
  refine rgn.Walk.ys (v := ?_) rfl rfl rfl ?_ ?_
  rotate_left 1
  · intro W' hW'
    go_simp
    try with_reducible rfl
  try simp only [Act.put, List.setIfInBounds_toArray, List.set_cons_zero, List.set_cons_succ]
  refine rgn.Walk.ys (v := ?_) rfl rfl rfl ?_ ?_
  rotate_left 1
  · intro W' hW'
    go_simp
    try with_reducible rfl
  try simp only [Act.put, List.setIfInBounds_toArray, List.set_cons_zero, List.set_cons_succ]
  refine rgn.Walk.ys (v := ?_) rfl rfl rfl ?_ ?_
  rotate_left 1
  · intro W' hW'
    go_simp
    try with_reducible rfl
  try simp only [Act.put, List.setIfInBounds_toArray, List.set_cons_zero, List.set_cons_succ]
  refine rgn.Walk.ys (v := ?_) rfl rfl rfl ?_ ?_
  rotate_left 1
  · intro W' hW'
    go_simp
    try with_reducible rfl
  try simp only [Act.put, List.setIfInBounds_toArray, List.set_cons_zero, List.set_cons_succ]
  refine rgn.Walk.ys (v := ?_) rfl rfl rfl ?_ ?_
  rotate_left 1
  · intro W' hW'
    go_simp
    try with_reducible rfl
  try simp only [Act.put, List.setIfInBounds_toArray, List.set_cons_zero, List.set_cons_succ]
  refine rgn.Walk.bs ?_ ?_
  · refine rgn.stepE rfl rfl (fun K hK => ?_)
    go_simp
    refine (HD.out _).mono ?_
    rintro x w4 ⟨rfl, o4⟩
    refine hK _ _ o4 ?_
    clear hK K
    try simp only [Act.put, List.setIfInBounds_toArray, List.set_cons_zero, List.set_cons_succ]
    have QB := hid (QB.out.trans o4)
    clear o4
    refine rgn.Walk.es ?_
    refine rgn.stepE rfl rfl (fun K hK => ?_)
    go_simp
    refine hK _ _ ((Only.refl [] _).alloc _) ?_
    clear hK K
    try simp only [Act.put, List.setIfInBounds_toArray, List.set_cons_zero, List.set_cons_succ]
    have OB := hid (Ob.new w4 5 #[.int .u8 (48 + r)])
    have QB := hid (QB.out.alloc (.cells #[.int .u8 (48 + r)] 5))
    refine rgn.Walk.ys (v := ?_) rfl rfl rfl ?_ ?_
    rotate_left 1
    · intro W' hW'
      have q8 := conv1 W' _ 1 (48 + r) ((OB.out.only hW' (by simp)).cell 0)
      go_simp
      try with_reducible rfl
    try simp only [Act.put, List.setIfInBounds_toArray, List.set_cons_zero, List.set_cons_succ]
    refine rgn.Walk.ys (v := ?_) rfl rfl rfl ?_ ?_
    rotate_left 1
    · intro W' hW'
      go_simp
      try with_reducible rfl
    try simp only [Act.put, List.setIfInBounds_toArray, List.set_cons_zero, List.set_cons_succ]
    refine rgn.Walk.es ?_
    refine rgn.stepE rfl rfl (fun K hK => ?_)
    go_simp
    refine hK _ _ ((Only.refl []) _) ?_
    clear hK K
    try simp only [Act.put, List.setIfInBounds_toArray, List.set_cons_zero, List.set_cons_succ]
    refine rgn.Walk.zs (NoPanic.normal ?_)
    go_wp2
    go_ret
    exact ⟨rfl, QB.out⟩
  · refine rgn.stepE rfl rfl (fun K hK => ?_)
    go_simp
    refine hK _ _ ((Only.refl [] _).alloc _) ?_
    clear hK K
    try simp only [Act.put, List.setIfInBounds_toArray, List.set_cons_zero, List.set_cons_succ]
    have OB := hid (Ob.new W 5 #[.int .u8 (48 + r)])
    have QB := hid (QB.out.alloc (.cells #[.int .u8 (48 + r)] 5))
    refine rgn.Walk.ys (v := ?_) rfl rfl rfl ?_ ?_
    rotate_left 1
    · intro W' hW'
      have q8 := conv1 W' _ 1 (48 + r) ((OB.out.only hW' (by simp)).cell 0)
      go_simp
      try with_reducible rfl
    try simp only [Act.put, List.setIfInBounds_toArray, List.set_cons_zero, List.set_cons_succ]
    refine rgn.Walk.es ?_
    refine rgn.stepE rfl rfl (fun K hK => ?_)
    go_simp
    refine (HD.out _).mono ?_
    rintro x w4 ⟨rfl, o4⟩
    refine hK _ _ o4 ?_
    clear hK K
    try simp only [Act.put, List.setIfInBounds_toArray, List.set_cons_zero, List.set_cons_succ]
    have QB := hid (QB.out.trans o4)
    have OB := hid (OB.out.only o4 (by simp))
    clear o4
    refine rgn.Walk.ys (v := ?_) rfl rfl rfl ?_ ?_
    rotate_left 1
    · intro W' hW'
      go_simp
      try with_reducible rfl
    try simp only [Act.put, List.setIfInBounds_toArray, List.set_cons_zero, List.set_cons_succ]
    refine rgn.Walk.es ?_
    refine rgn.stepE rfl rfl (fun K hK => ?_)
    go_simp
    refine hK _ _ ((Only.refl []) _) ?_
    clear hK K
    try simp only [Act.put, List.setIfInBounds_toArray, List.set_cons_zero, List.set_cons_succ]
    refine rgn.Walk.zs (NoPanic.normal ?_)
    go_wp2
    go_ret
    exact ⟨rfl, QB.out⟩
theorem catC (l r : List UInt8) : (⟨l.toArray⟩ : ByteArray) ++ ⟨r.toArray⟩ = ⟨(l ++ r).toArray⟩ := Go.ByteArray.mk_append_mk l r
theorem digN : ∀ (n : Nat), n ≤ 999 → ∀ w : World, Calls Tryd.prog 43 #[.int .i64 (n : Int)] w fun x w' => x = .returned (.string ⟨(Lib.decDigits n).toArray⟩) ∧ Only [] w w' := by
  intro n
  induction n using Nat.strongRecOn with
  | ind n ih =>
    intro hn w
    by_cases h : n < 10
    · rw [Lib.decDigits, dif_pos h]
      have := digA w n (by omega)
      rw [show ((48 + (n : Int)).toNat) = 48 + n from by omega] at this
      exact this
    · rw [Lib.decDigits, dif_neg h, ← catC]
      have := digB w n ((n / 10 : Nat) : Int) ((n % 10 : Nat) : Int) ⟨(Lib.decDigits (n / 10)).toArray⟩ (by omega) (by rw [Int.tdiv_eq_ediv_of_nonneg (by omega)]; omega) (by rw [Int.tmod_eq_emod_of_nonneg (by omega)]; omega) (by omega) (by omega) (by have := dd3 (n / 10) (by omega); exact Nat.le_trans this (by omega)) (ih (n / 10) (by omega) (by omega))
      rw [show ((48 + ((n % 10 : Nat) : Int)).toNat) = 48 + n % 10 from by omega] at this
      exact this
theorem digI (w : World) (v : Int) (h : 0 ≤ v ∧ v ≤ 255) : Calls Tryd.prog 43 #[.int .i64 v] w fun x w' => x = .returned (.string (ia v)) ∧ Only [] w w' := by
  obtain ⟨n, rfl⟩ := Int.eq_ofNat_of_zero_le h.1
  have := digN n (by omega) w
  unfold ia Lib.itoa
  rw [if_neg (by omega)]
  exact this
theorem txt_cat (a : Int) : ia (a / 16777216 % 256) ++ ⟨#[46]⟩ ++ ia (a / 65536 % 256) ++ ⟨#[46]⟩ ++ ia (a / 256 % 256) ++ ⟨#[46]⟩ ++ ia (a % 256) = txt a := by
  have hia : ∀ n, ia n = ⟨(ia n).data.toList.toArray⟩ := fun n => by simp
  rw [txt_eq, hia (a / 16777216 % 256), hia (a / 65536 % 256), hia (a / 256 % 256), hia (a % 256)]
  rw [show (⟨#[46]⟩ : ByteArray) = ⟨([46] : List UInt8).toArray⟩ from rfl]
  simp only [catC]
  simp
set_option maxHeartbeats 2000000 in
theorem rtext1 (w : World) (a : Int) (h0 : 0 ≤ a) (h1 : a ≤ 4294967295) : Calls Tryd.prog 25 #[.int .u32 a] w fun x w' => x = .returned (.string (txt a)) ∧ Only [] w w' := by
  have E1 : Hid (a / 16777216 = a / 16777216 % 256) := hid (by omega)
  have E2 : Hid (wrap64 (bits BinOp.and IntKind.u32 (a / 65536) 255) = (a / 65536) % 256) := hid (by rw [u32_and255 _ (by omega) (by omega)]; unfold wrap64; omega)
  have E3 : Hid (wrap64 (bits BinOp.and IntKind.u32 (a / 256) 255) = (a / 256) % 256) := hid (by rw [u32_and255 _ (by omega) (by omega)]; unfold wrap64; omega)
  have E4 : Hid (wrap64 (bits BinOp.and IntKind.u32 a 255) = a % 256) := hid (by rw [u32_and255 _ (by omega) (by omega)]; unfold wrap64; omega)
  have H1 := hid (digI · (a / 16777216 % 256) (by omega)); have H2 := hid (digI · (a / 65536 % 256) (by omega)); have H3 := hid (digI · (a / 256 % 256) (by omega)); have H4 := hid (digI · (a % 256) (by omega))
  have HT := hid (txt_cat a)
  have g1 : (ia (a / 16777216 % 256)).size ≤ 3 := ia3 _ (by omega) (by omega)
  have g2 : (ia (a / 65536 % 256)).size ≤ 3 := ia3 _ (by omega) (by omega)
  have g3 : (ia (a / 256 % 256)).size ≤ 3 := ia3 _ (by omega) (by omega)
  have g4 : (ia (a % 256)).size ≤ 3 := ia3 _ (by omega) (by omega)
  generalize ia (a / 16777216 % 256) = s1 at *
  generalize ia (a / 65536 % 256) = s2 at *
  generalize ia (a / 256 % 256) = s3 at *
  generalize ia (a % 256) = s4 at *
  generalize a / 16777216 % 256 = b1 at *
  generalize a / 65536 % 256 = b2 at *
  generalize a / 256 % 256 = b3 at *
  generalize a % 256 = b4 at *
  have z1 : ¬ 9223372036854775807 < s1.size + 1 := by omega
  have z2 : ¬ 9223372036854775807 < s1.size + 1 + s2.size := by omega
  have z3 : ¬ 9223372036854775807 < s1.size + 1 + s2.size + 1 := by omega
  have z4 : ¬ 9223372036854775807 < s1.size + 1 + s2.size + 1 + s3.size := by omega
  have z5 : ¬ 9223372036854775807 < s1.size + 1 + s2.size + 1 + s3.size + 1 := by omega
  have z6 : ¬ 9223372036854775807 < s1.size + 1 + s2.size + 1 + s3.size + 1 + s4.size := by omega
  clear g1 g2 g3 g4
  go_enter Tryd.func25, Tryd.ntmps25
  go_wp2_with fail
  rw [E1.out]
  refine (H1.out _).mono ?_
  rintro x w1 ⟨rfl, o1⟩
  have Q := hid o1; clear o1
  go_wp2_with fail
  rw [E2.out]
  refine (H2.out _).mono ?_
  rintro x w2 ⟨rfl, o2⟩
  have Q := hid (Q.out.trans o2); clear o2
  go_wp2_with fail
  rw [E3.out]
  refine (H3.out _).mono ?_
  rintro x w3 ⟨rfl, o3⟩
  have Q := hid (Q.out.trans o3); clear o3
  go_wp2_with fail
  rw [E4.out]
  refine (H4.out _).mono ?_
  rintro x w4 ⟨rfl, o4⟩
  have Q := hid (Q.out.trans o4); clear o4
  go_wp2
  go_ret
  exact ⟨by rw [← HT.out]; rfl, Q.out⟩
set_option maxHeartbeats 2000000 in
theorem texts (w : World) (a : Int) (m : Int) (hm : w.cell? ⟨1, 0, none⟩ = some (.int .i64 m)) (ht : Lib.TabIs Tryd.prog w "internal/strconv.uint64pow10" .u64 Lib.pow10Tab) (h0 : 0 ≤ a ∧ a ≤ 4294967295) :
    Calls Tryd.prog 7 #[.int .u32 a] w fun x w' => x = .returned (.bool true) ∧ Only [] w w' := by
  have HM := hid hm; have HT := hid ht; clear hm ht
  have HP := hid (prs_txt a h0)
  have HZ := hid (txt_size a)
  have H1 := hid (text1 · a h0.1 h0.2); have H3 := hid (rtext1 · a h0.1 h0.2)
  generalize txt a = s at *
  have HPA := HP.out.1; have HPE := HP.out.2
  go_enter Tryd.func7, Tryd.ntmps7
  go_wp2_with fail
  refine (H1.out _ HT.out).mono ?_
  rintro x w1 ⟨rfl, o1⟩
  have Q := hid o1; clear o1
  go_wp2_with fail
  refine (parse1 _ s m (by have := HZ.out; omega) (Q.out.keep HM.out)).mono ?_
  rintro x w2 ⟨rfl, o2⟩
  rw [HPA, HPE]
  clear HPA HPE
  have Q := hid (Q.out.trans o2); clear o2
  go_wp2_with fail
  refine (H3.out _).mono ?_
  rintro x w3 ⟨rfl, o3⟩
  have Q := hid (Q.out.trans o3); clear o3
  go_wp2_with fail
  refine (known _ m (Q.out.keep HM.out) (tab_only HT.out Q.out)).mono ?_
  rintro x w4 ⟨rfl, o4⟩
  have Q := hid (Q.out.trans o4); clear o4
  go_wp2
  go_ret
  exact ⟨rfl, Q.out⟩
end Go.Proofs.YtaoeflngdlgboaaDoor.ip
