/-
  Chapter 11 (udp): ports that are picked with one draw follow one another, round the end: the law by a walk of its text. Conditions: none but those typed.
-/
import Derived.Test.YtnhakcgkhhficaaUdpR
import Derived.Test.YtnhakcgkhhficaaEvP11
namespace Go.Proofs.Ytnhakcgkhhficaa.udp
set_option linter.unusedVariables false
set_option linter.unusedSimpArgs false
open Go.ChangeShapes Go.WideShapes Go.ChangeAt Go.RowKit Go.IntWalk Go.Lib
theorem bndInfo : ∃ i, Try.prog.info? 74 = some i ∧ i.zero = some (.agg #[.int .i64 0, .int .u32 0, .int .i64 0, .int .u32 0, .int .i64 0]) ∧ i.size = 5 ∧ i.bytes = 40 := info_parts (by kernel_rfl)
theorem own_neP {w : World} {g base n : Nat} {v : Value} {xs : List Value} {cs : Array Value} (ho : Ob w g 56 cs) (h : w.ownsRow base 74 5 v n xs) : v.ownBlock ≠ some g := by
  intro e
  rcases h.2 with ⟨hv, _⟩ | ⟨g', cap, cur, hv, _, hh, _⟩
  · rw [hv] at e; cases e
  · rw [hv] at e
    have : g' = g := by simpa [Value.ownBlock] using e
    subst this
    unfold Ob at ho
    rw [hh] at ho
    injection ho with h2; injection h2 with _ h3
    exact absurd h3 (by decide)
set_option maxHeartbeats 2000000 in
theorem pickP (w : World) (g base : Nat) (d f : Int) (hd : 0 ≤ d) (hf : d % 16384 = f) (n : Nat) (h : PSt w g base f n) (hn : n < 64) (hbw : base ≤ w.heap.size) :
    Calls Try.prog 13 #[.pointer (some ⟨g, 0, none⟩), .int .i64 n, .int .u32 0, .int .i64 d] w fun x w' => x = .returned (.tuple #[.int .i64 (prt f n), .int .i64 0]) ∧ PSt w' g base f (n + 1) ∧ Below base w w' := by
  have H := hid h; clear h
  have hf0 : 0 ≤ f ∧ f < 16384 := by omega
  have hmx : max d 0 = d := by omega
  have hdm : d.tmod 16384 = d % 16384 := Int.tmod_eq_emod_of_nonneg hd
  have hn0 : ¬ (n : Int) < 0 := by omega
  have HP : Hid (prt f n = 49152 + (f + (n : Int)) % 16384) := hid (by unfold prt; rfl)
  go_enter Try.func13, Try.ntmps13
  go_wp2_with fail
  refine (roomN w g base f n H.out (by omega) 0 (by rw [if_neg (by omega)])).mono ?_
  rintro x w1 ⟨rfl, o1⟩
  have H := hid (H.out.only_nil o1); have HB1 := hid o1
  clear o1
  go_wp2
  go_loopw [29] (fun i wr => ∃ j : Nat, j ≤ n ∧ i = .int .i64 j ∧ Hid (Only [] w1 wr)) (fun i _ => n + 1 - (RowKit.intOf i).toNat)
  case atStart => exact ⟨0, by omega, rfl, hid (Only.refl _ _)⟩
  case round =>
  obtain ⟨j, hj, rfl, HQ⟩ := hrel
  have HS := hid (H.out.only_nil HQ.out)
  have hj16 : (j : Int) < 16384 := by omega
  have hjm : (f + (j : Int)).tmod 16384 = (f + (j : Int)) % 16384 := Int.tmod_eq_emod_of_nonneg (by omega)
  by_cases hjn : j < n
  · have hT := takenN wr g base f n j (by omega) HS.out (by omega) hj true (by simp [hjn])
    simp only [prt] at hT
    have HT := hid hT; clear hT
    go_wp2_with fail
    refine HT.out.mono ?_
    rintro x w3 ⟨rfl, o3⟩
    have HQ := hid (HQ.out.trans o3)
    clear o3
    go_wp2
    go_roundw
    case rel => exact ⟨j + 1, by omega, by go_num, HQ⟩
    case measure => simp [RowKit.intOf]; omega
  · obtain rfl : j = n := by omega
    have hT := takenN wr g base f j j (by omega) HS.out (by omega) hj false (by simp)
    simp only [prt] at hT
    have HT := hid hT; clear hT
    go_wp2_with fail
    refine HT.out.mono ?_
    rintro x w3 ⟨rfl, o3⟩
    have HS := hid (HS.out.only_nil o3); have HQ := hid (HQ.out.trans o3)
    clear o3
    obtain ⟨v, ho, hv, hne, hbg⟩ := HS.out
    have hb3 : base ≤ w3.heap.size := by have := ho.lt; omega
    have c0 : w3.cell? ⟨g, 0, none⟩ = some v := ho.cell 0
    have OB := hid (ho.alloc (.cells #[.int .i64 j, .int .u32 0, .int .i64 (49152 + (f + (j : Int)) % 16384), .int .u32 0, .int .i64 0] 74)); have hlt := ho.lt
    have HV := hid (hv.alloc (.cells #[.int .i64 j, .int .u32 0, .int .i64 (49152 + (f + (j : Int)) % 16384), .int .u32 0, .int .i64 0] 74))
    have B : Hid (Below base w (w3.alloc (.cells #[.int .i64 j, .int .u32 0, .int .i64 (49152 + (f + (j : Int)) % 16384), .int .u32 0, .int .i64 0] 74))) := hid (((Only.below (B := base) ((Only.below (Below.refl _ _) HB1.out hbw (by simp))) HQ.out (by have := HB1.out.size; omega) (by simp))).alloc hb3 _)
    obtain ⟨i, hi, hz, hsi, hby⟩ := bndInfo
    have HN : Hid (∀ t u, (bnd f j)[t]? = some u → (w3.alloc (.cells #[.int .i64 j, .int .u32 0, .int .i64 (49152 + (f + (j : Int)) % 16384), .int .u32 0, .int .i64 0] 74)).cell? ((⟨w3.heap.size, 0, none⟩ : Addr).add t) = some u) := hid (fun t u hu => by
      have hoo := Ob.new w3 74 #[.int .i64 j, .int .u32 0, .int .i64 (49152 + (f + (j : Int)) % 16384), .int .u32 0, .int .i64 0]
      rw [addr_plus, Nat.zero_add, hoo.cell t]
      have hbn : bnd f j = [.int .i64 j, .int .u32 0, .int .i64 (49152 + (f + (j : Int)) % 16384), .int .u32 0, .int .i64 0] := by unfold bnd; rw [HP.out]
      rw [hbn] at hu
      simpa using hu)
    clear ho hv
    go_wp2_with (at_builtin; refine wpList_append_own _ rfl (.tmp 46) (.tmp 51) 54 rfl base 74 i _ 5 40 Try.underlying54 hi hz hsi hby rfl (by decide) v j (bc f j) rfl ?ca ⟨w3.heap.size, 0, none⟩ 1 1 (bnd f j) rfl rfl ?cb ?cc ?cd ?ce ?cf ?_)
    case ca => exact HV.out
    case cb => exact HN.out
    case cc => intro u hu; simp [bnd] at hu; rcases hu with rfl | rfl | rfl | rfl | rfl <;> rfl
    case cd => unfold maxLen; omega
    case ce => omega
    case cf => simp; omega
    intro v4 w4 hv4 hg4 _
    have hne4 := own_neP OB.out HV.out
    have OB := hid (OB.out.grown hg4 (fun e => hne4 e))
    have B := hid (B.out.grown hg4 (by have := B.out.size; omega) (fun k hk => (HV.out.lt k hk).1))
    have hv5 : w4.ownsRow base 74 5 v4 (j + 1) (bc f (j + 1)) := hv4
    have hne5 := own_neP OB.out hv5
    have HV5 := hid hv5
    obtain ⟨g5, cap5, ev5⟩ : ∃ g5 cap5, v4 = .slice (some ⟨g5, 0, none⟩) (j + 1) cap5 := by
      rcases hv5.2 with ⟨_, h0⟩ | ⟨g5, cap5, cur, hv, _⟩
      · omega
      · exact ⟨_, _, hv⟩
    subst ev5
    have c0 := OB.out.cell 0; have f0 := OB.out.frozen 0
    clear hv4 hg4 hv5 HN HV
    go_wp2
    go_ret2
    refine ⟨by rw [HP.out]; rfl, ⟨_, OB.out.set 0 _, ⟨HV5.out.1, ?_⟩, hne5, hbg⟩, B.out.setCell (p := ⟨g, 0, none⟩) hbg _⟩
    rcases HV5.out.2 with h | ⟨g6, cap6, cur, hv6, hb6, hh6, r⟩
    · exact .inl h
    · refine .inr ⟨g6, cap6, cur, hv6, hb6, ?_, r⟩
      have hg6 : g6 ≠ g := by
        intro e; subst e
        rw [hv6] at hne5
        exact hne5 rfl
      rw [heap_setCell_other _ _ g6 _ (by simpa using hg6)]
      exact hh6
theorem pickPF (w : World) (g base : Nat) (d f : Int) (hd : 0 ≤ d) (hf : d % 16384 = f) (h : PSt w g base f 64) :
    Calls Try.prog 13 #[.pointer (some ⟨g, 0, none⟩), .int .i64 64, .int .u32 0, .int .i64 d] w fun x w' => x = .returned (.tuple #[.int .i64 0, .int .i64 6]) ∧ Only [] w w' := by
  have H := hid h; clear h
  go_enter Try.func13, Try.ntmps13
  go_wp2_with fail
  refine (roomN w g base f 64 H.out (by omega) 6 (by rw [if_pos rfl])).mono ?_
  rintro x w1 ⟨rfl, o1⟩
  have HB1 := hid o1
  clear o1
  go_wp2
  go_ret2
  exact ⟨rfl, HB1.out⟩
set_option maxHeartbeats 2000000 in
theorem pickN (w : World) (g base : Nat) (d : Int) (hd : d < 0) (n : Nat) (h : PSt w g base 0 n) (hn : n < 64) (hbw : base ≤ w.heap.size) :
    Calls Try.prog 13 #[.pointer (some ⟨g, 0, none⟩), .int .i64 n, .int .u32 0, .int .i64 d] w fun x w' => x = .returned (.tuple #[.int .i64 (prt 0 n), .int .i64 0]) ∧ PSt w' g base 0 (n + 1) ∧ Below base w w' := by
  have H := hid h; clear h
  have hmx : max d 0 = 0 := by omega
  have hn0 : ¬ (n : Int) < 0 := by omega
  have HP : Hid (prt 0 n = 49152 + (n : Int) % 16384) := hid (by unfold prt; rw [Int.zero_add])
  go_enter Try.func13, Try.ntmps13
  go_wp2_with fail
  refine (roomN w g base 0 n H.out (by omega) 0 (by rw [if_neg (by omega)])).mono ?_
  rintro x w1 ⟨rfl, o1⟩
  have H := hid (H.out.only_nil o1); have HB1 := hid o1
  clear o1
  go_wp2
  go_loopw [29] (fun i wr => ∃ j : Nat, j ≤ n ∧ i = .int .i64 j ∧ Hid (Only [] w1 wr)) (fun i _ => n + 1 - (RowKit.intOf i).toNat)
  case atStart => exact ⟨0, by omega, rfl, hid (Only.refl _ _)⟩
  case round =>
  obtain ⟨j, hj, rfl, HQ⟩ := hrel
  have HS := hid (H.out.only_nil HQ.out)
  have hj16 : (j : Int) < 16384 := by omega
  have hjm : (j : Int).tmod 16384 = (j : Int) % 16384 := Int.tmod_eq_emod_of_nonneg (by omega)
  by_cases hjn : j < n
  · have hT := takenN wr g base 0 n j (by omega) HS.out (by omega) hj true (by simp [hjn])
    simp only [prt, Int.zero_add] at hT
    have HT := hid hT; clear hT
    go_wp2_with fail
    refine HT.out.mono ?_
    rintro x w3 ⟨rfl, o3⟩
    have HQ := hid (HQ.out.trans o3)
    clear o3
    go_wp2
    go_roundw
    case rel => exact ⟨j + 1, by omega, by go_num, HQ⟩
    case measure => simp [RowKit.intOf]; omega
  · obtain rfl : j = n := by omega
    have hT := takenN wr g base 0 j j (by omega) HS.out (by omega) hj false (by simp)
    simp only [prt, Int.zero_add] at hT
    have HT := hid hT; clear hT
    go_wp2_with fail
    refine HT.out.mono ?_
    rintro x w3 ⟨rfl, o3⟩
    have HS := hid (HS.out.only_nil o3); have HQ := hid (HQ.out.trans o3)
    clear o3
    obtain ⟨v, ho, hv, hne, hbg⟩ := HS.out
    have hb3 : base ≤ w3.heap.size := by have := ho.lt; omega
    have c0 : w3.cell? ⟨g, 0, none⟩ = some v := ho.cell 0
    have OB := hid (ho.alloc (.cells #[.int .i64 j, .int .u32 0, .int .i64 (49152 + (j : Int) % 16384), .int .u32 0, .int .i64 0] 74)); have hlt := ho.lt
    have HV := hid (hv.alloc (.cells #[.int .i64 j, .int .u32 0, .int .i64 (49152 + (j : Int) % 16384), .int .u32 0, .int .i64 0] 74))
    have B : Hid (Below base w (w3.alloc (.cells #[.int .i64 j, .int .u32 0, .int .i64 (49152 + (j : Int) % 16384), .int .u32 0, .int .i64 0] 74))) := hid (((Only.below (B := base) ((Only.below (Below.refl _ _) HB1.out hbw (by simp))) HQ.out (by have := HB1.out.size; omega) (by simp))).alloc hb3 _)
    obtain ⟨i, hi, hz, hsi, hby⟩ := bndInfo
    have HN : Hid (∀ t u, (bnd 0 j)[t]? = some u → (w3.alloc (.cells #[.int .i64 j, .int .u32 0, .int .i64 (49152 + (j : Int) % 16384), .int .u32 0, .int .i64 0] 74)).cell? ((⟨w3.heap.size, 0, none⟩ : Addr).add t) = some u) := hid (fun t u hu => by
      have hoo := Ob.new w3 74 #[.int .i64 j, .int .u32 0, .int .i64 (49152 + (j : Int) % 16384), .int .u32 0, .int .i64 0]
      rw [addr_plus, Nat.zero_add, hoo.cell t]
      have hbn : bnd 0 j = [.int .i64 j, .int .u32 0, .int .i64 (49152 + (j : Int) % 16384), .int .u32 0, .int .i64 0] := by unfold bnd; rw [HP.out]
      rw [hbn] at hu
      simpa using hu)
    clear ho hv
    go_wp2_with (at_builtin; refine wpList_append_own _ rfl (.tmp 46) (.tmp 51) 54 rfl base 74 i _ 5 40 Try.underlying54 hi hz hsi hby rfl (by decide) v j (bc 0 j) rfl ?ca ⟨w3.heap.size, 0, none⟩ 1 1 (bnd 0 j) rfl rfl ?cb ?cc ?cd ?ce ?cf ?_)
    case ca => exact HV.out
    case cb => exact HN.out
    case cc => intro u hu; simp [bnd] at hu; rcases hu with rfl | rfl | rfl | rfl | rfl <;> rfl
    case cd => unfold maxLen; omega
    case ce => omega
    case cf => simp; omega
    intro v4 w4 hv4 hg4 _
    have hne4 := own_neP OB.out HV.out
    have OB := hid (OB.out.grown hg4 (fun e => hne4 e))
    have B := hid (B.out.grown hg4 (by have := B.out.size; omega) (fun k hk => (HV.out.lt k hk).1))
    have hv5 : w4.ownsRow base 74 5 v4 (j + 1) (bc 0 (j + 1)) := hv4
    have hne5 := own_neP OB.out hv5
    have HV5 := hid hv5
    obtain ⟨g5, cap5, ev5⟩ : ∃ g5 cap5, v4 = .slice (some ⟨g5, 0, none⟩) (j + 1) cap5 := by
      rcases hv5.2 with ⟨_, h0⟩ | ⟨g5, cap5, cur, hv, _⟩
      · omega
      · exact ⟨_, _, hv⟩
    subst ev5
    have c0 := OB.out.cell 0; have f0 := OB.out.frozen 0
    clear hv4 hg4 hv5 HN HV
    go_wp2
    go_ret2
    refine ⟨by rw [HP.out]; rfl, ⟨_, OB.out.set 0 _, ⟨HV5.out.1, ?_⟩, hne5, hbg⟩, B.out.setCell (p := ⟨g, 0, none⟩) hbg _⟩
    rcases HV5.out.2 with h | ⟨g6, cap6, cur, hv6, hb6, hh6, r⟩
    · exact .inl h
    · refine .inr ⟨g6, cap6, cur, hv6, hb6, ?_, r⟩
      have hg6 : g6 ≠ g := by
        intro e; subst e
        rw [hv6] at hne5
        exact hne5 rfl
      rw [heap_setCell_other _ _ g6 _ (by simpa using hg6)]
      exact hh6
theorem pickNF (w : World) (g base : Nat) (d : Int) (hd : d < 0) (h : PSt w g base 0 64) :
    Calls Try.prog 13 #[.pointer (some ⟨g, 0, none⟩), .int .i64 64, .int .u32 0, .int .i64 d] w fun x w' => x = .returned (.tuple #[.int .i64 0, .int .i64 6]) ∧ Only [] w w' := by
  have H := hid h; clear h
  go_enter Try.func13, Try.ntmps13
  go_wp2_with fail
  refine (roomN w g base 0 64 H.out (by omega) 6 (by rw [if_pos rfl])).mono ?_
  rintro x w1 ⟨rfl, o1⟩
  have HB1 := hid o1
  clear o1
  go_wp2
  go_ret2
  exact ⟨rfl, HB1.out⟩
set_option maxHeartbeats 2000000 in
theorem roundP (w : World) (d f : Int) (hd : 0 ≤ d) (hf : d % 16384 = f) (n : Nat) (hn : n ≤ 64) : Calls Try.prog 11 #[.int .i64 d, .int .i64 n] w (fun e w' => e = .returned (.bool true) ∧ Only [] w w') := by
  have hf0 : 0 ≤ f ∧ f < 16384 := by omega
  have hmx : max 0 d = d := by omega
  have hdm : d.tmod 16384 = d % 16384 := Int.tmod_eq_emod_of_nonneg hd
  have h1 : ¬ (n : Int) < 0 := by omega
  have h2 : ¬ 64 < (n : Int) := by omega
  have P0 : Hid (PSt (w.alloc (.cells #[.slice none 0 0] 56)) w.heap.size w.heap.size f 0) := hid ⟨.slice none 0 0, Ob.new _ _ _, ⟨rfl, .inl ⟨rfl, rfl⟩⟩, (by simp [Value.ownBlock]), Nat.le_refl _⟩
  have B0 : Hid (Below w.heap.size w (w.alloc (.cells #[.slice none 0 0] 56))) := hid ((Below.refl _ _).alloc (Nat.le_refl _) _)
  go_enter Try.func11, Try.ntmps11
  go_wp2
  go_loopw [6] (fun i wr => ∃ j : Nat, j ≤ n ∧ i = .int .i64 j ∧ Hid (PSt wr w.heap.size w.heap.size f j) ∧ Hid (Below w.heap.size w wr)) (fun i _ => n - (RowKit.intOf i).toNat)
  case atStart => exact ⟨0, by omega, rfl, P0, B0⟩
  case round =>
  obtain ⟨j, hj, rfl, HP, HB⟩ := hrel
  have hjm : (f + (j : Int)).tmod 16384 = (f + (j : Int)) % 16384 := Int.tmod_eq_emod_of_nonneg (by omega)
  by_cases hjn : j < n
  · have hji : (j : Int) < n := by omega
    have HE : Hid (prt f j = 49152 + (f + (j : Int)) % 16384) := hid (by unfold prt; rfl)
    go_wp2_with fail
    refine (pickP wr w.heap.size w.heap.size d f hd hf j HP.out (by omega) HB.out.size).mono ?_
    rintro x w3 ⟨rfl, p3, b3⟩
    rw [HE.out]
    have HP := hid p3; have HB := hid (HB.out.trans b3)
    clear p3 b3
    go_wp2
    go_roundw
    case rel => exact ⟨j + 1, by omega, by go_num, HP, HB⟩
    case measure => simp [RowKit.intOf]; omega
  · obtain rfl : j = n := by omega
    by_cases h64 : j = 64
    · subst h64
      go_wp2_with fail
      refine (pickPF wr w.heap.size w.heap.size d f hd hf HP.out).mono ?_
      rintro x w3 ⟨rfl, o3⟩
      have HB := hid ((Only.of_below (S := []) HB.out).trans o3)
      clear o3
      go_wp2_with fail
      refine (ev.known _).mono ?_
      rintro x w9 ⟨rfl, o9⟩
      have HB := hid (HB.out.trans o9); clear o9
      go_wp2
      go_ret
      exact ⟨rfl, HB.out⟩
    · have h64i : ((j : Int) == 64) = false := by simp; omega
      have HE : Hid (prt f j = 49152 + (f + (j : Int)) % 16384) := hid (by unfold prt; rfl)
      go_wp2_with fail
      refine (pickP wr w.heap.size w.heap.size d f hd hf j HP.out (by omega) HB.out.size).mono ?_
      rintro x w3 ⟨rfl, p3, b3⟩
      have HB := hid (Only.of_below (S := []) (HB.out.trans b3))
      clear p3 b3
      go_wp2_with fail
      refine (ev.known _).mono ?_
      rintro x w9 ⟨rfl, o9⟩
      have HB := hid (HB.out.trans o9); clear o9
      go_wp2
      go_ret
      exact ⟨rfl, HB.out⟩
set_option maxHeartbeats 2000000 in
theorem roundN (w : World) (d : Int) (hd : d < 0) (n : Nat) (hn : n ≤ 64) : Calls Try.prog 11 #[.int .i64 d, .int .i64 n] w (fun e w' => e = .returned (.bool true) ∧ Only [] w w') := by
  have hmx : max 0 d = 0 := by omega
  have h1 : ¬ (n : Int) < 0 := by omega
  have h2 : ¬ 64 < (n : Int) := by omega
  have P0 : Hid (PSt (w.alloc (.cells #[.slice none 0 0] 56)) w.heap.size w.heap.size 0 0) := hid ⟨.slice none 0 0, Ob.new _ _ _, ⟨rfl, .inl ⟨rfl, rfl⟩⟩, (by simp [Value.ownBlock]), Nat.le_refl _⟩
  have B0 : Hid (Below w.heap.size w (w.alloc (.cells #[.slice none 0 0] 56))) := hid ((Below.refl _ _).alloc (Nat.le_refl _) _)
  go_enter Try.func11, Try.ntmps11
  go_wp2
  go_loopw [6] (fun i wr => ∃ j : Nat, j ≤ n ∧ i = .int .i64 j ∧ Hid (PSt wr w.heap.size w.heap.size 0 j) ∧ Hid (Below w.heap.size w wr)) (fun i _ => n - (RowKit.intOf i).toNat)
  case atStart => exact ⟨0, by omega, rfl, P0, B0⟩
  case round =>
  obtain ⟨j, hj, rfl, HP, HB⟩ := hrel
  have hjm : (j : Int).tmod 16384 = (j : Int) % 16384 := Int.tmod_eq_emod_of_nonneg (by omega)
  by_cases hjn : j < n
  · have hji : (j : Int) < n := by omega
    have HE : Hid (prt 0 j = 49152 + (j : Int) % 16384) := hid (by unfold prt; rw [Int.zero_add])
    go_wp2_with fail
    refine (pickN wr w.heap.size w.heap.size d hd j HP.out (by omega) HB.out.size).mono ?_
    rintro x w3 ⟨rfl, p3, b3⟩
    rw [HE.out]
    have HP := hid p3; have HB := hid (HB.out.trans b3)
    clear p3 b3
    go_wp2
    go_roundw
    case rel => exact ⟨j + 1, by omega, by go_num, HP, HB⟩
    case measure => simp [RowKit.intOf]; omega
  · obtain rfl : j = n := by omega
    by_cases h64 : j = 64
    · subst h64
      go_wp2_with fail
      refine (pickNF wr w.heap.size w.heap.size d hd HP.out).mono ?_
      rintro x w3 ⟨rfl, o3⟩
      have HB := hid ((Only.of_below (S := []) HB.out).trans o3)
      clear o3
      go_wp2_with fail
      refine (ev.known _).mono ?_
      rintro x w9 ⟨rfl, o9⟩
      have HB := hid (HB.out.trans o9); clear o9
      go_wp2
      go_ret
      exact ⟨rfl, HB.out⟩
    · have h64i : ((j : Int) == 64) = false := by simp; omega
      have HE : Hid (prt 0 j = 49152 + (j : Int) % 16384) := hid (by unfold prt; rw [Int.zero_add])
      go_wp2_with fail
      refine (pickN wr w.heap.size w.heap.size d hd j HP.out (by omega) HB.out.size).mono ?_
      rintro x w3 ⟨rfl, p3, b3⟩
      have HB := hid (Only.of_below (S := []) (HB.out.trans b3))
      clear p3 b3
      go_wp2_with fail
      refine (ev.known _).mono ?_
      rintro x w9 ⟨rfl, o9⟩
      have HB := hid (HB.out.trans o9); clear o9
      go_wp2
      go_ret
      exact ⟨rfl, HB.out⟩
theorem round (w : World) (d n : Int) : Calls Try.prog 11 #[.int .i64 d, .int .i64 n] w (fun e w' => e = .returned (.bool true) ∧ Only [] w w') := by
  by_cases h : 0 ≤ n ∧ n ≤ 64
  · obtain ⟨m, rfl⟩ := Int.eq_ofNat_of_zero_le h.1
    by_cases hd : 0 ≤ d
    · exact roundP w d _ hd rfl m (by omega)
    · exact roundN w d (by omega) m (by omega)
  · by_cases h0 : n < 0
    · clear h
      go_enter Try.func11, Try.ntmps11
      go_wp2_with fail
      refine (ev.known _).mono ?_
      rintro x w9 ⟨rfl, o9⟩
      have HB := hid o9; clear o9
      go_wp2
      go_ret
      exact ⟨rfl, HB.out⟩
    · have h1 : 64 < n := by omega
      clear h
      go_enter Try.func11, Try.ntmps11
      go_wp2_with fail
      refine (ev.known _).mono ?_
      rintro x w9 ⟨rfl, o9⟩
      have HB := hid o9; clear o9
      go_wp2
      go_ret
      exact ⟨rfl, HB.out⟩
end Go.Proofs.Ytnhakcgkhhficaa.udp
