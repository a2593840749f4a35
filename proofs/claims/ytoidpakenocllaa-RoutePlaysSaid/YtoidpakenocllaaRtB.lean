/-
  Chapter 8 (route): the tree in memory; a bit of an address, what routes a table takes, and whether it has one, by a walk of each text. Conditions: none but those typed.
-/
import Derived.Test.YtoidpakenocllaaRtA
import Derived.Test.YtoidpakenocllaaBit
namespace Go.Proofs.Ytoidpakenocllaa.rou
set_option linter.unusedVariables false
set_option linter.unusedSimpArgs false
open Go.ChangeShapes Go.WideShapes Go.ChangeAt Go.RowKit Go.IntWalk Go.Lib
theorem and1 (x : Int) (h : 0 ≤ x ∧ x ≤ 4294967295) : bits .and .u32 x 1 = x % 2 := by
  obtain ⟨N, rfl⟩ := Int.eq_ofNat_of_zero_le h.1
  rw [show (1 : Int) = ((1 : Nat) : Int) from rfl, u32_and_nat N 1 (by omega) (by omega), Nat.and_one_is_mod]
  omega
set_option maxRecDepth 100000 in
theorem bit1 (w : World) (a : Int) (i : Nat) (ha : 0 ≤ a ∧ a ≤ 4294967295) (hi : i < 32) : Calls Try.prog 25 #[.int .u32 a, .int .i64 (i : Int)] w fun x w' => x = .returned (.int .i64 (bt a i)) ∧ w = w' := by
  have hle : a / 2 ^ (31 - i) ≤ a := Int.ediv_le_self _ ha.1
  have hge : 0 ≤ a / 2 ^ (31 - i) := Int.ediv_nonneg ha.1 (Int.le_of_lt (Int.pow_pos (by omega)))
  have HE : Hid (wrap64 (bits BinOp.and IntKind.u32 (a / 2 ^ (31 - i)) 1) = bt a i) := hid (by
    rw [and1 _ ⟨hge, by omega⟩]
    unfold bt
    generalize a / 2 ^ (31 - i) = q at *
    exact wrap64_in _ (by omega))
  clear hle hge
  go_enter Try.func25, Try.ntmps25
  go_wp2_with fail
  go_ret
  rw [HE.out]
  exact ⟨rfl, rfl⟩
/-- What a table takes. -/
def Vld (r : Rt) : Prop := (0 ≤ r.bits ∧ r.bits ≤ 32) ∧ 0 ≤ r.met ∧ r.net = pre r.net r.bits.toNat * 2 ^ (32 - r.bits.toNat)
theorem Vld.ok {r : Rt} (h : Vld r) : r.ok := ⟨h.1.1, h.1.2, h.2.1, h.2.2⟩
theorem shl_zero (a : Int) (b : Nat) (hb : b ≤ 32) : a * 2 ^ b % 4294967296 = 0 ↔ a = pre a b * 2 ^ (32 - b) := by
  have e : (4294967296 : Int) = 2 ^ b * 2 ^ (32 - b) := by
    rw [← Int.pow_add, show b + (32 - b) = 32 from by omega]; rfl
  have hp : (0 : Int) < 2 ^ b := Int.pow_pos (by omega)
  rw [e, Int.mul_comm a, Int.mul_emod_mul_of_pos _ _ hp]
  unfold pre
  have h2 := Int.mul_ediv_add_emod a (2 ^ (32 - b))
  constructor
  · intro h
    have : a % 2 ^ (32 - b) = 0 := by
      rcases Int.mul_eq_zero.1 h with h3 | h3
      · omega
      · exact h3
    rw [Int.mul_comm (a / _)]; omega
  · intro h
    rw [Int.mul_comm (a / _)] at h
    have : a % 2 ^ (32 - b) = 0 := by omega
    rw [this]; simp
def ValE (r : Rt) (w : World) (x : Ending) (w' : World) : Prop := (∃ b : Bool, x = .returned (.bool b) ∧ (b = true ↔ Vld r)) ∧ Only [] w w'
set_option maxRecDepth 100000 in
theorem valid1 (w : World) (r : Rt) (ha : 0 ≤ r.net ∧ r.net ≤ 4294967295) : Calls Try.prog 18 #[.agg #[.int .u32 r.net, .int .i64 r.bits, .int .u32 r.via, .int .i64 r.met]] w (ValE r w) := by
  obtain ⟨net, bits, via, met⟩ := r
  simp only at ha
  have Q0 : Hid (Only [] w (w.alloc (.cells #[.int .u32 net, .int .i64 bits, .int .u32 via, .int .i64 met] 34))) := hid ((Only.refl [] w).alloc _)
  by_cases h1 : 0 ≤ bits
  · by_cases h2 : bits ≤ 32
    · by_cases h3 : 0 ≤ met
      · obtain ⟨b, rfl⟩ := Int.eq_ofNat_of_zero_le h1
        by_cases h4 : b = 32
        · subst h4
          have HF : Hid (Vld ⟨net, 32, via, met⟩) := hid ⟨⟨by simp only; omega, by simp only; omega⟩, h3, by simp only; rw [show (32 : Int).toNat = 32 from rfl, pre_full]; simp⟩
          go_enter Try.func18, Try.ntmps18
          go_wp2_with fail
          go_ret
          exact ⟨⟨true, rfl, fun _ => HF.out, fun _ => rfl⟩, Q0.out⟩
        · have h5 : ¬ (b : Int) = 32 := by omega
          have HF : Hid (((((b : Int) == 32) || (net * 2 ^ b % 4294967296 == 0)) = true) ↔ (0 ≤ (b : Int) ∧ (b : Int) ≤ 32) ∧ 0 ≤ met ∧ net = pre net ((b : Int)).toNat * 2 ^ (32 - ((b : Int)).toNat)) := hid (by
            have e : ((b : Int)).toNat = b := by omega
            rw [e, show ((b : Int) == 32) = false from by simpa using h5, Bool.false_or, ← shl_zero net b (by omega)]
            simp only [beq_iff_eq]
            exact ⟨fun h => ⟨⟨h1, h2⟩, h3, h⟩, fun h => h.2.2⟩)
          have h6 : ((b : Int) == 32) = false := by simpa using h5
          rw [h6, Bool.false_or] at HF
          clear h4 h5
          go_enter Try.func18, Try.ntmps18
          go_wp2_with fail
          go_ret
          exact ⟨⟨_, rfl, HF.out⟩, Q0.out⟩
      · have h3' : met < 0 := by omega
        go_enter Try.func18, Try.ntmps18
        go_wp2_with fail
        go_ret
        exact ⟨⟨false, rfl, ⟨fun h => (by cases h), fun h => absurd h.2.1 (by simp only; omega)⟩⟩, Q0.out⟩
    · have h2' : 32 < bits := by omega
      go_enter Try.func18, Try.ntmps18
      go_wp2_with fail
      go_ret
      exact ⟨⟨false, rfl, ⟨fun h => (by cases h), fun h => absurd h.1.2 (by simp only; omega)⟩⟩, Q0.out⟩
  · have h1' : bits < 0 := by omega
    go_enter Try.func18, Try.ntmps18
    go_wp2_with fail
    go_ret
    exact ⟨⟨false, rfl, ⟨fun h => (by cases h), fun h => absurd h.1.1 (by simp only; omega)⟩⟩, Q0.out⟩
/-- The tree in memory. -/
def Tr.okm (base : Nat) (w : World) : Tr → Prop
  | .nil => True
  | .nd b v L l r => base ≤ b ∧ Ob w b 58 #[l.ptr, r.ptr, v] ∧ w.ownsRow base 34 4 v L.length (rws Rt.enc L) ∧ l.okm base w ∧ r.okm base w
theorem Tr.okm_lt {base : Nat} {w : World} : ∀ {t : Tr}, t.okm base w → ∀ k ∈ t.bks, base ≤ k ∧ k < w.heap.size
  | .nil, _, k, hk => by simp [Tr.bks] at hk
  | .nd b v L l r, h, k, hk => by
    obtain ⟨h0, h1, h2, h3, h4⟩ := h
    simp only [Tr.bks, List.mem_cons, List.mem_append, Option.mem_toList] at hk
    rcases hk with rfl | hk | hk | hk
    · exact ⟨h0, h1.lt⟩
    · exact own_lt h2 k hk
    · exact Tr.okm_lt h3 k hk
    · exact Tr.okm_lt h4 k hk
theorem Tr.okm_only {S : List Nat} {base : Nat} {w w' : World} : ∀ {t : Tr}, t.okm base w → Only S w w' → (∀ k ∈ t.bks, k ∉ S) → t.okm base w'
  | .nil, _, _, _ => True.intro
  | .nd b v L l r, h, o, hn => by
    obtain ⟨h0, h1, h2, h3, h4⟩ := h
    have hm : ∀ k, (k = b ∨ k ∈ v.ownBlock.toList ∨ k ∈ l.bks ∨ k ∈ r.bks) → k ∉ S := fun k hk => hn k (by simpa only [Tr.bks, List.mem_cons, List.mem_append] using hk)
    exact ⟨h0, h1.only o (hm b (.inl rfl)), own_only h2 o (fun k hk => hm k (.inr (.inl (by rw [hk]; simp)))), Tr.okm_only h3 o (fun k hk => hm k (.inr (.inr (.inl hk)))), Tr.okm_only h4 o (fun k hk => hm k (.inr (.inr (.inr hk))))⟩
theorem Tr.okm_nil {base : Nat} {w w' : World} {t : Tr} (h : t.okm base w) (o : Only [] w w') : t.okm base w' := Tr.okm_only h o (by simp)
theorem Tr.kid_okm {base : Nat} {w : World} {b : Nat} {v : Value} {L : List Rt} {l r : Tr} (h : (Tr.nd b v L l r).okm base w) (a : Int) (d : Nat) : (Tr.kid l r a d).okm base w := by
  unfold Tr.kid; split
  · exact h.2.2.2.1
  · exact h.2.2.2.2
theorem place1 (w : World) (base g : Nat) (v n0 n1 : Value) (L : List Rt) (t : Int) (ho : Ob w g 58 #[n0, n1, v]) (hv : w.ownsRow base 34 4 v L.length (rws Rt.enc L)) (hL : Rise L) (hb : L.length ≤ 100000) :
    Calls Try.prog 32 #[.pointer (some ⟨g, 0, none⟩), .int .i64 t] w (BsE L t w) := by
  obtain ⟨A, c, rfl, _, _, _, hr, _, _⟩ := RdS.of_own hv (rws_one enc_one _)
  have k2 := ho.cell 2
  have HR := hid hr; have HL := hid hL
  clear ho hr hL hv
  go_enter Try.func32, Try.ntmps32
  go_wp2_with fail
  clear k2
  refine (bsf1 w A L L.length c t HR.out rfl HL.out (by omega)).mono ?_
  rintro x w1 ⟨rfl, o1⟩
  have O1 := hid o1; clear o1
  go_wp2_with fail
  go_ret2
  exact ⟨rfl, O1.out⟩
def HasE (t : Tr) (r : Rt) (w : World) (x : Ending) (w' : World) : Prop := (∃ b : Bool, x = .returned (.bool b) ∧ (b = true ↔ ∃ y ∈ t.all, Key y r)) ∧ Only [] w w'
set_option maxRecDepth 100000 in
set_option maxHeartbeats 4000000 in
theorem has1 (w : World) (base g : Nat) (t : Tr) (cnt : Int) (r : Rt) (ho : Ob w g 26 #[t.ptr, .int .i64 cnt]) (hm : t.okm base w) (hw : t.wf 0 0) (hb : t.all.length ≤ 100000) (hr : Vld r) (ha : 0 ≤ r.net ∧ r.net ≤ 4294967295) :
    Calls Try.prog 19 #[.pointer (some ⟨g, 0, none⟩), .agg #[.int .u32 r.net, .int .i64 r.bits, .int .u32 r.via, .int .i64 r.met]] w (HasE t r w) := by
  obtain ⟨net, bits, via, met⟩ := r
  obtain ⟨b, rfl⟩ := Int.eq_ofNat_of_zero_le hr.1.1
  have hb32 : b ≤ 32 := by have := hr.1.2; simp only at this; omega
  simp only at ha
  have HR := hid hr; have HM := hid hm; have HW := hid hw; have HB := hid hb
  have k0 := ho.cell 0
  obtain ⟨W0, hW0⟩ : ∃ W0, w.alloc (.cells #[.int .u32 net, .int .i64 b, .int .u32 via, .int .i64 met] 34) = W0 := ⟨_, rfl⟩
  have OB : Hid (Ob W0 w.heap.size 34 #[.int .u32 net, .int .i64 b, .int .u32 via, .int .i64 met]) := hid (by rw [← hW0]; exact Ob.new _ _ _)
  have Q0 : Hid (Only [] w W0) := hid (by rw [← hW0]; exact (Only.refl [] w).alloc _)
  have k0 := Q0.out.keep k0
  clear hm hw hb ho hr
  go_enter Try.func19, Try.ntmps19
  go_wp2_with fail
  clear k0
  go_loopw [5, 6] (fun n i wr => ∃ (k : Nat) (s : Tr), n = s.ptr ∧ i = .int .i64 k ∧ k ≤ b ∧ Hid (s.okm base wr) ∧ Hid (s.wf k (pre net k)) ∧ Hid (∀ y, Key y ⟨net, b, via, met⟩ → (y ∈ t.all ↔ y ∈ s.all)) ∧ Hid (s.all.length ≤ 100000) ∧ Hid (Only [] W0 wr)) (fun _ i _ => b - (RowKit.intOf i).toNat)
  case atStart => exact ⟨0, t, rfl, rfl, by omega, hid (Tr.okm_nil HM.out Q0.out), hid (by rw [pre_zero ha.1 ha.2]; exact HW.out), hid (fun y _ => Iff.rfl), HB, hid (Only.refl _ _)⟩
  case round =>
    obtain ⟨k, s, rfl, rfl, hk, HM1, HW1, HI1, HB1, Q1⟩ := hrel
    have o1 := OB.out.only Q1.out (by simp)
    have d0 := o1.cell 0; have d1 := o1.cell 1; have d2 := o1.cell 2; have d3 := o1.cell 3
    clear o1
    cases s with
    | nil =>
      have HF : Hid ((false = true) ↔ ∃ y ∈ t.all, Key y ⟨net, b, via, met⟩) := hid ⟨fun h => (by cases h), fun ⟨y, hy, hk⟩ => by
        have := (HI1.out y hk).1 hy
        simp [Tr.all] at this⟩
      rw [show Tr.ptr Tr.nil = Value.pointer none from rfl]
      go_wp2_with fail
      go_ret
      exact ⟨⟨false, rfl, HF.out⟩, Q0.out.trans Q1.out⟩
    | nd nb v L l rr =>
      rw [show Tr.ptr (Tr.nd nb v L l rr) = Value.pointer (some ⟨nb, 0, none⟩) from rfl]
      obtain ⟨_, hob, hov, _, _⟩ := HM1.out
      obtain ⟨h32, hL, hLb, _, _⟩ := HW1.out
      have HOb := hid hob; have HOv := hid hov
      have HL := hid hL
      have HLn : Hid (L.length ≤ 100000) := hid (by have := HB1.out; simp only [Tr.all, List.length_append] at this; omega)
      clear hob hov hL hLb h32
      by_cases hkb : k < b
      · have hk32 : k < 32 := by omega
        have HBt : Hid (bt net k = 0 ∨ bt net k = 1) := hid (bt_or net k)
        go_wp2_with fail
        clear d0 d1 d2 d3
        rcases HBt.out with hz | hz
        · have hz : bt net k = 0 := hz
          have hz2 : (bt net k : Int) = 0 := hz
          refine wp_region_noPanic ?_
          refine rgn.regionT (R := Only []) (by kernel_rfl) (Only.refl []) (fun _ _ _ => Only.trans) (fun _ _ _ _ _ h => h) (.y 0 (.y 1 (.y 2 (.y 3 (.y 5 (.y 6 (.e 4 (.y 7 (.y 8 (.e 9 .z)))))))))) (by kernel_rfl) (fun W hWd => ?_)
          have HWd := hid hWd; clear hWd
          have q8 : Only [] wr W := Only.eq_drew (Only.refl [] _) HWd.out
          have OBW := hid ((OB.out.only Q1.out (by simp)).only q8 (by simp)); have HObW := hid (HOb.out.only q8 (by simp)); have QW := hid (Q1.out.trans q8); have HMW := hid (Tr.okm_nil HM1.out q8)
          clear HWd q8
          refine rgn.Walk.ys (v := ?_) rfl rfl rfl ?_ ?_
          rotate_left 1
          · intro W' hW'
            go_simp
            try with_reducible rfl
          try simp only [Act.put, List.setIfInBounds_toArray, List.set_cons_zero, List.set_cons_succ]
          refine rgn.Walk.ys (v := ?_) rfl rfl rfl ?_ ?_
          rotate_left 1
          · intro W' hW'
            go_simp
            try with_reducible rfl
          try simp only [Act.put, List.setIfInBounds_toArray, List.set_cons_zero, List.set_cons_succ]
          refine rgn.Walk.ys (v := ?_) rfl rfl rfl ?_ ?_
          rotate_left 1
          · intro W' hW'
            have q0 := hW'.keep (OBW.out.cell 0)
            go_simp
            try with_reducible rfl
          try simp only [Act.put, List.setIfInBounds_toArray, List.set_cons_zero, List.set_cons_succ]
          refine rgn.Walk.ys (v := ?_) rfl rfl rfl ?_ ?_
          rotate_left 1
          · intro W' hW'
            go_simp
            try with_reducible rfl
          try simp only [Act.put, List.setIfInBounds_toArray, List.set_cons_zero, List.set_cons_succ]
          refine rgn.Walk.ys (v := ?_) rfl rfl rfl ?_ ?_
          rotate_left 1
          · intro W' hW'
            go_simp
            try with_reducible rfl
          try simp only [Act.put, List.setIfInBounds_toArray, List.set_cons_zero, List.set_cons_succ]
          refine rgn.Walk.ys (v := ?_) rfl rfl rfl ?_ ?_
          rotate_left 1
          · intro W' hW'
            go_simp
            try with_reducible rfl
          try simp only [Act.put, List.setIfInBounds_toArray, List.set_cons_zero, List.set_cons_succ]
          refine rgn.Walk.es ?_
          refine rgn.stepE rfl rfl (fun K hK => ?_)
          go_simp
          refine (bit1 _ net k ha hk32).mono ?_
          rintro x w5 ⟨rfl, e5⟩
          subst e5
          refine hK _ _ (Only.refl _ _) ?_
          clear hK K
          try simp only [Act.put, List.setIfInBounds_toArray, List.set_cons_zero, List.set_cons_succ]
          refine rgn.Walk.ys (v := ?_) rfl rfl rfl ?_ ?_
          rotate_left 1
          · intro W' hW'
            have hz2 := hz2
            go_simp
            try with_reducible rfl
          try simp only [Act.put, List.setIfInBounds_toArray, List.set_cons_zero, List.set_cons_succ]
          refine rgn.Walk.ys (v := ?_) rfl rfl rfl ?_ ?_
          rotate_left 1
          · intro W' hW'
            have q0 := hW'.keep (HObW.out.cell 0)
            go_simp
            try with_reducible rfl
          try simp only [Act.put, List.setIfInBounds_toArray, List.set_cons_zero, List.set_cons_succ]
          refine rgn.Walk.es ?_
          refine rgn.stepE rfl rfl (fun K hK => ?_)
          go_simp
          refine hK _ _ ((Only.refl []) _) ?_
          clear hK K
          try simp only [Act.put, List.setIfInBounds_toArray, List.set_cons_zero, List.set_cons_succ]
          refine rgn.Walk.zs (NoPanic.normal ?_)
          have HMk : Hid (l.okm base W) := hid (by have := Tr.kid_okm HMW.out net k; unfold Tr.kid at this; rw [if_pos hz] at this; exact this)
          have HWk : Hid (l.wf (k + 1) (pre net (k + 1))) := hid (by have := Tr.kid_wf net HW1.out hk32; unfold Tr.kid at this; rw [if_pos hz] at this; exact this)
          have HIk : Hid (∀ y, Key y ⟨net, b, via, met⟩ → (y ∈ t.all ↔ y ∈ l.all)) := hid (fun y hy => by
            refine (HI1.out y hy).trans ⟨fun h => ?_, fun h => ?_⟩
            · have := Tr.down HW1.out h (by rw [hy.2.1]; simp only; omega) (by rw [hy.1])
              unfold Tr.kid at this; rw [if_pos hz] at this; exact this
            · simp only [Tr.all, List.mem_append]; exact .inl (.inr h))
          have HBk : Hid (l.all.length ≤ 100000) := hid (by have := HB1.out; simp only [Tr.all, List.length_append] at this; omega)
          clear hz hz2
          go_wp2_with fail
          go_roundw
          case rel => exact ⟨k + 1, l, rfl, by first | rfl | go_num, by omega, HMk, HWk, HIk, HBk, QW⟩
          case measure => simp [RowKit.intOf]; omega
        · have hz : bt net k = 1 := hz
          have hz2 : (bt net k : Int) = 1 := hz
          refine wp_region_noPanic ?_
          refine rgn.regionT (R := Only []) (by kernel_rfl) (Only.refl []) (fun _ _ _ => Only.trans) (fun _ _ _ _ _ h => h) (.y 0 (.y 1 (.y 2 (.y 3 (.y 5 (.y 6 (.e 4 (.y 7 (.y 8 (.e 9 .z)))))))))) (by kernel_rfl) (fun W hWd => ?_)
          have HWd := hid hWd; clear hWd
          have q8 : Only [] wr W := Only.eq_drew (Only.refl [] _) HWd.out
          have OBW := hid ((OB.out.only Q1.out (by simp)).only q8 (by simp)); have HObW := hid (HOb.out.only q8 (by simp)); have QW := hid (Q1.out.trans q8); have HMW := hid (Tr.okm_nil HM1.out q8)
          clear HWd q8
          refine rgn.Walk.ys (v := ?_) rfl rfl rfl ?_ ?_
          rotate_left 1
          · intro W' hW'
            go_simp
            try with_reducible rfl
          try simp only [Act.put, List.setIfInBounds_toArray, List.set_cons_zero, List.set_cons_succ]
          refine rgn.Walk.ys (v := ?_) rfl rfl rfl ?_ ?_
          rotate_left 1
          · intro W' hW'
            go_simp
            try with_reducible rfl
          try simp only [Act.put, List.setIfInBounds_toArray, List.set_cons_zero, List.set_cons_succ]
          refine rgn.Walk.ys (v := ?_) rfl rfl rfl ?_ ?_
          rotate_left 1
          · intro W' hW'
            have q0 := hW'.keep (OBW.out.cell 0)
            go_simp
            try with_reducible rfl
          try simp only [Act.put, List.setIfInBounds_toArray, List.set_cons_zero, List.set_cons_succ]
          refine rgn.Walk.ys (v := ?_) rfl rfl rfl ?_ ?_
          rotate_left 1
          · intro W' hW'
            go_simp
            try with_reducible rfl
          try simp only [Act.put, List.setIfInBounds_toArray, List.set_cons_zero, List.set_cons_succ]
          refine rgn.Walk.ys (v := ?_) rfl rfl rfl ?_ ?_
          rotate_left 1
          · intro W' hW'
            go_simp
            try with_reducible rfl
          try simp only [Act.put, List.setIfInBounds_toArray, List.set_cons_zero, List.set_cons_succ]
          refine rgn.Walk.ys (v := ?_) rfl rfl rfl ?_ ?_
          rotate_left 1
          · intro W' hW'
            go_simp
            try with_reducible rfl
          try simp only [Act.put, List.setIfInBounds_toArray, List.set_cons_zero, List.set_cons_succ]
          refine rgn.Walk.es ?_
          refine rgn.stepE rfl rfl (fun K hK => ?_)
          go_simp
          refine (bit1 _ net k ha hk32).mono ?_
          rintro x w5 ⟨rfl, e5⟩
          subst e5
          refine hK _ _ (Only.refl _ _) ?_
          clear hK K
          try simp only [Act.put, List.setIfInBounds_toArray, List.set_cons_zero, List.set_cons_succ]
          refine rgn.Walk.ys (v := ?_) rfl rfl rfl ?_ ?_
          rotate_left 1
          · intro W' hW'
            have hz2 := hz2
            go_simp
            try with_reducible rfl
          try simp only [Act.put, List.setIfInBounds_toArray, List.set_cons_zero, List.set_cons_succ]
          refine rgn.Walk.ys (v := ?_) rfl rfl rfl ?_ ?_
          rotate_left 1
          · intro W' hW'
            have q0 := hW'.keep (HObW.out.cell 1)
            go_simp
            try with_reducible rfl
          try simp only [Act.put, List.setIfInBounds_toArray, List.set_cons_zero, List.set_cons_succ]
          refine rgn.Walk.es ?_
          refine rgn.stepE rfl rfl (fun K hK => ?_)
          go_simp
          refine hK _ _ ((Only.refl []) _) ?_
          clear hK K
          try simp only [Act.put, List.setIfInBounds_toArray, List.set_cons_zero, List.set_cons_succ]
          refine rgn.Walk.zs (NoPanic.normal ?_)
          have HMk : Hid (rr.okm base W) := hid (by have := Tr.kid_okm HMW.out net k; unfold Tr.kid at this; rw [if_neg (by omega)] at this; exact this)
          have HWk : Hid (rr.wf (k + 1) (pre net (k + 1))) := hid (by have := Tr.kid_wf net HW1.out hk32; unfold Tr.kid at this; rw [if_neg (by omega)] at this; exact this)
          have HIk : Hid (∀ y, Key y ⟨net, b, via, met⟩ → (y ∈ t.all ↔ y ∈ rr.all)) := hid (fun y hy => by
            refine (HI1.out y hy).trans ⟨fun h => ?_, fun h => ?_⟩
            · have := Tr.down HW1.out h (by rw [hy.2.1]; simp only; omega) (by rw [hy.1])
              unfold Tr.kid at this; rw [if_neg (by omega)] at this; exact this
            · simp only [Tr.all, List.mem_append]; exact .inr h)
          have HBk : Hid (rr.all.length ≤ 100000) := hid (by have := HB1.out; simp only [Tr.all, List.length_append] at this; omega)
          clear hz hz2
          go_wp2_with fail
          go_roundw
          case rel => exact ⟨k + 1, rr, rfl, by first | rfl | go_num, by omega, HMk, HWk, HIk, HBk, QW⟩
          case measure => simp [RowKit.intOf]; omega
      · obtain rfl : k = b := by omega
        go_wp2_with fail
        clear d0 d1 d2 d3
        refine (place1 wr base nb v _ _ L met HOb.out HOv.out HL.out HLn.out).mono ?_
        rintro x w2 ⟨rfl, o2⟩
        have HF : Hid ((has L met = true) ↔ ∃ y ∈ t.all, Key y ⟨net, k, via, met⟩) := hid (by
          rw [has_iff HL.out]
          obtain ⟨_, _, hLb, _, _⟩ := HW1.out
          constructor
          · rintro ⟨y, hy, he⟩
            obtain ⟨h1, h2, h3⟩ := hLb y hy
            have hnet : y.net = net := by
              have e1 := h1.nt; have e2 := HR.out.2.2
              simp only at e2
              rw [h2] at e1
              rw [show ((k : Int)).toNat = k from by omega] at e1 e2
              rw [h3] at e1
              rw [e1, ← e2]
            have hy2 : y ∈ (Tr.nd nb v L l rr).all := by simp only [Tr.all, List.mem_append]; exact .inl (.inl hy)
            exact ⟨y, (HI1.out y ⟨hnet, h2, he⟩).2 hy2, ⟨hnet, h2, he⟩⟩
          · rintro ⟨y, hy, hkey⟩
            exact ⟨y, Tr.here HW1.out ((HI1.out y hkey).1 hy) hkey.2.1, hkey.2.2⟩)
        have Q2 := hid ((Q0.out.trans Q1.out).trans o2)
        clear o2
        go_wp2_with fail
        go_ret
        exact ⟨⟨_, rfl, HF.out⟩, Q2.out⟩
end Go.Proofs.Ytoidpakenocllaa.rou
