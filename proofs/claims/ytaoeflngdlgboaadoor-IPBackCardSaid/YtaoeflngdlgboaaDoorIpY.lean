/-
  Chapter 6 (ipv4): what is read of what was written, whatever stands behind. Conditions: none but those typed.
-/
import Derived.Test.YtaoeflngdlgboaaDoorIpX
import Derived.Test.YtaoeflngdlgboaaDoorIpM
namespace Go.Proofs.YtaoeflngdlgboaaDoor.ip
set_option linter.unusedVariables false
set_option linter.unusedSimpArgs false
open Go.ChangeShapes Go.WideShapes Go.ChangeAt Go.RowKit Go.IntWalk Go.Lib
theorem at16' (x : Int) (h : 0 ≤ x ∧ x ≤ 65535) : x / 256 % 256 * 256 + x % 256 = x := by omega
theorem at32' (x : Int) (h : 0 ≤ x ∧ x ≤ 4294967295) : x / 16777216 % 256 * 16777216 + x / 65536 % 256 * 65536 + x / 256 % 256 * 256 + x % 256 = x := by omega
theorem at8' (x : Int) (h : 0 ≤ x ∧ x ≤ 255) : x % 256 = x := by omega
theorem pbs_at2' (off : Int) (wh mo : Bool) (h : 0 ≤ off ∧ off ≤ 65528) : (0 ≤ pbs off wh mo ∧ pbs off wh mo ≤ 65535) ∧ pbs off wh mo / 256 % 256 = off / 8 / 256 + (if wh then 64 else 0) + (if mo then 32 else 0) ∧ pbs off wh mo % 8192 = off / 8 := by
  unfold pbs
  cases wh <;> cases mo <;> simp only [if_true, if_false, Bool.false_eq_true] <;> omega
theorem at20' (a0 a1 a2 a3 a4 a5 a6 a7 a8 a9 a10 a11 a12 a13 a14 a15 a16 a17 a18 a19 : Int) (t : List Int) : (a0 :: a1 :: a2 :: a3 :: a4 :: a5 :: a6 :: a7 :: a8 :: a9 :: a10 :: a11 :: a12 :: a13 :: a14 :: a15 :: a16 :: a17 :: a18 :: a19 :: t).getD 1 0 = a1 ∧ (a0 :: a1 :: a2 :: a3 :: a4 :: a5 :: a6 :: a7 :: a8 :: a9 :: a10 :: a11 :: a12 :: a13 :: a14 :: a15 :: a16 :: a17 :: a18 :: a19 :: t).getD 2 0 = a2 ∧ (a0 :: a1 :: a2 :: a3 :: a4 :: a5 :: a6 :: a7 :: a8 :: a9 :: a10 :: a11 :: a12 :: a13 :: a14 :: a15 :: a16 :: a17 :: a18 :: a19 :: t).getD 3 0 = a3 ∧ (a0 :: a1 :: a2 :: a3 :: a4 :: a5 :: a6 :: a7 :: a8 :: a9 :: a10 :: a11 :: a12 :: a13 :: a14 :: a15 :: a16 :: a17 :: a18 :: a19 :: t).getD 4 0 = a4 ∧ (a0 :: a1 :: a2 :: a3 :: a4 :: a5 :: a6 :: a7 :: a8 :: a9 :: a10 :: a11 :: a12 :: a13 :: a14 :: a15 :: a16 :: a17 :: a18 :: a19 :: t).getD 5 0 = a5 ∧ (a0 :: a1 :: a2 :: a3 :: a4 :: a5 :: a6 :: a7 :: a8 :: a9 :: a10 :: a11 :: a12 :: a13 :: a14 :: a15 :: a16 :: a17 :: a18 :: a19 :: t).getD 6 0 = a6 ∧ (a0 :: a1 :: a2 :: a3 :: a4 :: a5 :: a6 :: a7 :: a8 :: a9 :: a10 :: a11 :: a12 :: a13 :: a14 :: a15 :: a16 :: a17 :: a18 :: a19 :: t).getD 7 0 = a7 ∧ (a0 :: a1 :: a2 :: a3 :: a4 :: a5 :: a6 :: a7 :: a8 :: a9 :: a10 :: a11 :: a12 :: a13 :: a14 :: a15 :: a16 :: a17 :: a18 :: a19 :: t).getD 8 0 = a8 ∧ (a0 :: a1 :: a2 :: a3 :: a4 :: a5 :: a6 :: a7 :: a8 :: a9 :: a10 :: a11 :: a12 :: a13 :: a14 :: a15 :: a16 :: a17 :: a18 :: a19 :: t).getD 9 0 = a9 ∧ (a0 :: a1 :: a2 :: a3 :: a4 :: a5 :: a6 :: a7 :: a8 :: a9 :: a10 :: a11 :: a12 :: a13 :: a14 :: a15 :: a16 :: a17 :: a18 :: a19 :: t).getD 12 0 = a12 ∧ (a0 :: a1 :: a2 :: a3 :: a4 :: a5 :: a6 :: a7 :: a8 :: a9 :: a10 :: a11 :: a12 :: a13 :: a14 :: a15 :: a16 :: a17 :: a18 :: a19 :: t).getD 13 0 = a13 ∧ (a0 :: a1 :: a2 :: a3 :: a4 :: a5 :: a6 :: a7 :: a8 :: a9 :: a10 :: a11 :: a12 :: a13 :: a14 :: a15 :: a16 :: a17 :: a18 :: a19 :: t).getD 14 0 = a14 ∧ (a0 :: a1 :: a2 :: a3 :: a4 :: a5 :: a6 :: a7 :: a8 :: a9 :: a10 :: a11 :: a12 :: a13 :: a14 :: a15 :: a16 :: a17 :: a18 :: a19 :: t).getD 15 0 = a15 ∧ (a0 :: a1 :: a2 :: a3 :: a4 :: a5 :: a6 :: a7 :: a8 :: a9 :: a10 :: a11 :: a12 :: a13 :: a14 :: a15 :: a16 :: a17 :: a18 :: a19 :: t).getD 16 0 = a16 ∧ (a0 :: a1 :: a2 :: a3 :: a4 :: a5 :: a6 :: a7 :: a8 :: a9 :: a10 :: a11 :: a12 :: a13 :: a14 :: a15 :: a16 :: a17 :: a18 :: a19 :: t).getD 17 0 = a17 ∧ (a0 :: a1 :: a2 :: a3 :: a4 :: a5 :: a6 :: a7 :: a8 :: a9 :: a10 :: a11 :: a12 :: a13 :: a14 :: a15 :: a16 :: a17 :: a18 :: a19 :: t).getD 18 0 = a18 ∧ (a0 :: a1 :: a2 :: a3 :: a4 :: a5 :: a6 :: a7 :: a8 :: a9 :: a10 :: a11 :: a12 :: a13 :: a14 :: a15 :: a16 :: a17 :: a18 :: a19 :: t).getD 19 0 = a19 := ⟨rfl, rfl, rfl, rfl, rfl, rfl, rfl, rfl, rfl, rfl, rfl, rfl, rfl, rfl, rfl, rfl, rfl⟩
theorem places_at2 {sv pid off lf pr : Int} {wh mo : Bool} {fr to : Int} {o d : List Int} (h : chk sv pid off lf pr o d.length = 0) (hf : 0 ≤ fr ∧ fr ≤ 4294967295) (ht : 0 ≤ to ∧ to ≤ 4294967295) (E : List Int) (hE : E = encP sv pid off lf pr wh mo fr to o d) :
    E.getD 1 0 = sv ∧ E.getD 2 0 * 256 + E.getD 3 0 = (hl o.length : Int) + d.length ∧ E.getD 4 0 * 256 + E.getD 5 0 = pid ∧ E.getD 6 0 * 256 + E.getD 7 0 = pbs off wh mo ∧ E.getD 8 0 = lf ∧ E.getD 9 0 = pr ∧ E.getD 12 0 * 16777216 + E.getD 13 0 * 65536 + E.getD 14 0 * 256 + E.getD 15 0 = fr ∧ E.getD 16 0 * 16777216 + E.getD 17 0 * 65536 + E.getD 18 0 * 256 + E.getD 19 0 = to ∧ E.getD 6 0 = off / 8 / 256 + (if wh then 64 else 0) + (if mo then 32 else 0) ∧ E.drop (hl o.length) = d := by
  obtain ⟨hN, hn40, hok, hll⟩ := chk0 h
  unfold Nums at hN
  have hb := hl_bd o.length
  subst hE
  obtain ⟨a0, a10, a11, t, hc⟩ : ∃ a0 a10 a11 t, encP sv pid off lf pr wh mo fr to o d = (a0) :: (sv % 256) :: (((hl o.length : Nat) + (d.length : Int)) / 256 % 256) :: (((hl o.length : Nat) + (d.length : Int)) % 256) :: (pid / 256 % 256) :: (pid % 256) :: (pbs off wh mo / 256 % 256) :: (pbs off wh mo % 256) :: (lf % 256) :: (pr % 256) :: (a10) :: (a11) :: (fr / 16777216 % 256) :: (fr / 65536 % 256) :: (fr / 256 % 256) :: (fr % 256) :: (to / 16777216 % 256) :: (to / 65536 % 256) :: (to / 256 % 256) :: (to % 256) :: t :=
    ⟨(64 + (hl o.length : Nat) / 4 : Int) % 256, sumH sv pid off lf pr wh mo fr to o d.length / 256 % 256, sumH sv pid off lf pr wh mo fr to o d.length % 256, o ++ (List.replicate (hl o.length - 20 - o.length) 0 ++ d), by simp only [encP, hdr, b2, b4, List.append_assoc, List.cons_append, List.nil_append, List.singleton_append]⟩
  obtain ⟨e1, e2, e3, e4, e5, e6, e7, e8, e9, e12, e13, e14, e15, e16, e17, e18, e19⟩ := at20' (a0) (sv % 256) (((hl o.length : Nat) + (d.length : Int)) / 256 % 256) (((hl o.length : Nat) + (d.length : Int)) % 256) (pid / 256 % 256) (pid % 256) (pbs off wh mo / 256 % 256) (pbs off wh mo % 256) (lf % 256) (pr % 256) (a10) (a11) (fr / 16777216 % 256) (fr / 65536 % 256) (fr / 256 % 256) (fr % 256) (to / 16777216 % 256) (to / 65536 % 256) (to / 256 % 256) (to % 256) t
  rw [← hc] at e1 e2 e3 e4 e5 e6 e7 e8 e9 e12 e13 e14 e15 e16 e17 e18 e19
  rw [e1, e2, e3, e4, e5, e6, e7, e8, e9, e12, e13, e14, e15, e16, e17, e18, e19]
  have hdr' : (encP sv pid off lf pr wh mo fr to o d).drop (hl o.length) = d := by
    unfold encP
    rw [← hdr_len sv pid off lf pr wh mo fr to o d.length (sumH sv pid off lf pr wh mo fr to o d.length)]
    exact List.drop_left
  clear e1 e2 e3 e4 e5 e6 e7 e8 e9 e12 e13 e14 e15 e16 e17 e18 e19 hc
  obtain ⟨hpb, hpf, _⟩ := pbs_at2' off wh mo hN.2.2.2.2.1
  exact ⟨at8' _ hN.1, at16' _ (by omega), at16' _ hN.2.2.2.1, at16' _ hpb, at8' _ hN.2.1, at8' _ hN.2.2.1, at32' _ hf, at32' _ ht, hpf, hdr'⟩
theorem pbs_at2 (off : Int) (wh mo : Bool) (h : 0 ≤ off ∧ off ≤ 65528) : 0 ≤ pbs off wh mo ∧ pbs off wh mo ≤ 65535 := (pbs_at2' off wh mo h).1
theorem i64_and_nat (a b : Nat) (ha : a < 4294967296) (hb : b < 4294967296) : bits .and .i64 (a : Int) (b : Int) = ((a &&& b : Nat) : Int) := by
  show IntKind.i64.wrap ((BitVec.ofInt 64 (a : Int) &&& BitVec.ofInt 64 (b : Int)).toNat : Nat) = _
  rw [BitVec.toNat_and, BitVec.toNat_ofInt, BitVec.toNat_ofInt]
  have e1 : ((a : Int) % ((2 ^ 64 : Nat) : Int)).toNat = a := by
    have : (a : Int) % ((2 ^ 64 : Nat) : Int) = a := Int.emod_eq_of_lt (by omega) (by omega)
    rw [this]; rfl
  have e2 : ((b : Int) % ((2 ^ 64 : Nat) : Int)).toNat = b := by
    have : (b : Int) % ((2 ^ 64 : Nat) : Int) = b := Int.emod_eq_of_lt (by omega) (by omega)
    rw [this]; rfl
  rw [e1, e2]
  have hle : a &&& b ≤ a := Nat.and_le_left
  exact i64_in _ (by omega)
theorem and_pow (m k : Nat) : m &&& 2 ^ k = if m.testBit k then 2 ^ k else 0 := by
  apply Nat.eq_of_testBit_eq
  intro i
  rw [Nat.testBit_and, Nat.testBit_two_pow]
  by_cases h : k = i
  · subst h
    cases hm : m.testBit k
    · simp
    · simp
  · cases hm : m.testBit k
    · simp [h]
    · simp [h, Nat.testBit_two_pow]
theorem bit_ne (m k : Nat) (hm : m < 65536) (hk : 2 ^ k < 65536) : (bits .and .i64 (m : Int) ((2 ^ k : Nat) : Int) != 0) = decide (m / 2 ^ k % 2 = 1) := by
  rw [i64_and_nat m (2 ^ k) (by omega) (by omega), and_pow, Nat.testBit_eq_decide_div_mod_eq]
  have hp : 0 < 2 ^ k := Nat.pow_pos (by omega)
  by_cases h : m / 2 ^ k % 2 = 1
  · rw [decide_eq_true h, if_pos rfl]
    have : ((2 ^ k : Nat) : Int) ≠ 0 := by omega
    simpa using this
  · rw [decide_eq_false h, if_neg (by simp)]
    rfl
theorem pbs_bits (off : Int) (wh mo : Bool) (h : 0 ≤ off ∧ off ≤ 65528) (h8 : off % 8 = 0) : (bits .and .i64 (pbs off wh mo) 16384 != 0) = wh ∧ (bits .and .i64 (pbs off wh mo) 8192 != 0) = mo ∧ (bits .and .i64 (pbs off wh mo) 32768 != 0) = false ∧ pbs off wh mo % 8192 * 8 = off := by
  have hb := (pbs_at2 off wh mo h)
  obtain ⟨m, hm⟩ := Int.eq_ofNat_of_zero_le hb.1
  have e1 := bit_ne m 14 (by omega) (by decide)
  have e2 := bit_ne m 13 (by omega) (by decide)
  have e3 := bit_ne m 15 (by omega) (by decide)
  rw [show ((2 ^ 14 : Nat) : Int) = 16384 from rfl] at e1
  rw [show ((2 ^ 13 : Nat) : Int) = 8192 from rfl] at e2
  rw [show ((2 ^ 15 : Nat) : Int) = 32768 from rfl] at e3
  rw [hm, e1, e2, e3]
  rw [show (2 : Nat) ^ 14 = 16384 from rfl, show (2 : Nat) ^ 13 = 8192 from rfl, show (2 : Nat) ^ 15 = 32768 from rfl]
  unfold pbs at hm
  cases wh <;> cases mo <;> simp only [if_true, if_false, Bool.false_eq_true] at hm <;> simp only [decide_eq_true_eq, decide_eq_false_iff_not] <;> omega
theorem getD_app (E q : List Int) (i : Nat) (h : i < E.length) : (E ++ q).getD i 0 = E.getD i 0 := by
  rw [List.getD_eq_getElem?_getD, List.getD_eq_getElem?_getD, List.getElem?_append_left h]
/-- Options with the noughts behind them. -/
def oz (o : List Int) : List Int := o ++ List.replicate (hl o.length - 20 - o.length) 0
theorem oz_len (o : List Int) : (oz o).length = hl o.length - 20 := by
  have := hl_bd o.length
  unfold oz; rw [List.length_append, List.length_replicate]; omega
theorem hl_oz (o : List Int) : hl (oz o).length = hl o.length := by rw [oz_len]; unfold hl; omega
theorem hdr_oz (sv pid off lf pr : Int) (wh mo : Bool) (fr to : Int) (o : List Int) (dn : Nat) (s : Int) : hdr sv pid off lf pr wh mo fr to (oz o) dn s = hdr sv pid off lf pr wh mo fr to o dn s := by
  have e : hl (oz o).length - 20 - (oz o).length = 0 := by rw [hl_oz, oz_len]; omega
  unfold hdr
  rw [e, hl_oz]
  unfold oz
  simp only [List.replicate_zero, List.append_nil, List.append_assoc]
theorem encP_oz (sv pid off lf pr : Int) (wh mo : Bool) (fr to : Int) (o d : List Int) : encP sv pid off lf pr wh mo fr to (oz o) d = encP sv pid off lf pr wh mo fr to o d := by
  unfold encP sumH
  rw [hdr_oz, hdr_oz]
theorem okO_oz {o : List Int} (h : okO o = true) : okO (oz o) = true := by
  have h1 := ofs_okO o
  exact okO_of (h1.zeros h _ (fun x hx => List.eq_of_mem_replicate hx))
theorem chk_oz {sv pid off lf pr : Int} {o : List Int} {dn : Nat} (h : chk sv pid off lf pr o dn = 0) : chk sv pid off lf pr (oz o) dn = 0 := by
  obtain ⟨hN, h40, hok, hll⟩ := chk0 h
  have hb := hl_bd o.length
  have hl60 : hl o.length ≤ 60 := by unfold hl; omega
  unfold chk
  rw [if_pos hN, if_neg (by rw [oz_len]; omega), if_neg (by rw [okO_oz hok]; simp), hl_oz]
  unfold chk at h
  rw [if_pos hN, if_neg (by omega), if_neg (by rw [hok]; simp)] at h
  exact h
theorem hdr20 (sv pid off lf pr : Int) (wh mo : Bool) (fr to : Int) (o : List Int) (dn : Nat) (s : Int) : (hdr sv pid off lf pr wh mo fr to o dn s).drop 20 = oz o := by
  unfold hdr oz
  simp only [b2, b4, List.append_assoc, List.cons_append, List.nil_append, List.singleton_append]
  rfl
theorem back_facts {sv pid off lf pr : Int} {wh mo : Bool} {fr to : Int} {o d : List Int} (h : chk sv pid off lf pr o d.length = 0) (ho : ∀ z ∈ o, (Lit.int .u8 z).wf = true) (hf : 0 ≤ fr ∧ fr ≤ 4294967295) (ht : 0 ≤ to ∧ to ≤ 4294967295) (q : List Int) (l : List Int) (hl' : l = encP sv pid off lf pr wh mo fr to o d ++ q) :
    dEp l = 0 ∧ optD l = oz o ∧ datD l = d ∧ l.getD 1 0 = sv ∧ ref.get2 l 4 = pid ∧ ref.get2 l 6 = pbs off wh mo ∧ l.getD 8 0 = lf ∧ l.getD 9 0 = pr ∧ ref.get4 l 12 = fr ∧ ref.get4 l 16 = to := by
  obtain ⟨hN, hn40, hok, hll⟩ := chk0 h
  have hN' := hN
  unfold Nums at hN
  have hb := hl_bd o.length
  have hl60 : hl o.length ≤ 60 := by unfold hl; omega
  have hm4 : hl o.length % 4 = 0 := by unfold hl; omega
  have HPL := places_at2 h hf ht (encP sv pid off lf pr wh mo fr to o d) rfl
  have hlen : (encP sv pid off lf pr wh mo fr to o d).length = hl o.length + d.length := by unfold encP; rw [List.length_append, hdr_len]
  have h0 : (encP sv pid off lf pr wh mo fr to o d).getD 0 0 = (64 + (hl o.length : Nat) / 4 : Int) % 256 := rfl
  have htk : (encP sv pid off lf pr wh mo fr to o d).take (hl o.length) = hdr sv pid off lf pr wh mo fr to o d.length (sumH sv pid off lf pr wh mo fr to o d.length) := by
    unfold encP
    rw [← hdr_len sv pid off lf pr wh mo fr to o d.length (sumH sv pid off lf pr wh mo fr to o d.length), List.take_left]
  have hdp : (encP sv pid off lf pr wh mo fr to o d).drop (hl o.length) = d := HPL.2.2.2.2.2.2.2.2.2
  generalize hE : encP sv pid off lf pr wh mo fr to o d = E at *
  have g : ∀ i, i < E.length → l.getD i 0 = E.getD i 0 := fun i hi => by rw [hl']; exact getD_app E q i hi
  obtain ⟨p1, p2, p4, p6, p8, p9, p12, p16, _, _⟩ := HPL
  have e1 : hd l = (hl o.length : Nat) := by unfold hd; rw [g 0 (by omega), h0]; omega
  have e2 : tot l = (hl o.length : Nat) + (d.length : Int) := by unfold tot; rw [g 2 (by omega), g 3 (by omega)]; exact p2
  have eh : (hd l).toNat = hl o.length := by omega
  have et : (tot l).toNat = E.length := by omega
  have t1 : l.take (hl o.length) = E.take (hl o.length) := by rw [hl', List.take_append_of_le_length (by omega)]
  have t2 : l.take E.length = E := by rw [hl', List.take_left]
  have hll2 : E.length ≤ l.length := by rw [hl', List.length_append]; omega
  have hopt : optD l = oz o := by unfold optD; rw [eh, t1, htk, hdr20]
  have hB : ref.get2 l 6 = pbs off wh mo := by unfold ref.get2; rw [g 6 (by omega), g 7 (by omega)]; exact p6
  obtain ⟨b1, b2', b3, b4'⟩ := pbs_bits off wh mo (by omega) (by omega)
  have hear : early l = 0 := by
    unfold early
    rw [if_neg (by omega), if_neg (by rw [g 0 (by omega), h0]; omega), if_neg (by omega), if_neg (by omega), if_neg (by omega), if_neg (by omega), if_neg (by
      rw [eh, t1, htk, hdr_zero _ _ _ _ _ _ _ _ _ _ _ ho]; simp)]
  have hlate : late l = 0 := by
    unfold late
    rw [hB, b3, if_neg (by simp), hopt, okO_oz hok, if_neg (by simp), b4', e1, e2, if_neg]
    unfold chk at h
    rw [if_pos hN', if_neg (by omega), if_neg (by rw [hok]; simp)] at h
    split at h
    · omega
    · omega
  refine ⟨by unfold dEp; rw [if_neg (fun h => h hear)]; exact hlate, hopt, by unfold datD; rw [et, t2, eh]; exact hdp, by rw [g 1 (by omega)]; exact p1, by unfold ref.get2; rw [g 4 (by omega), g 5 (by omega)]; exact p4, hB, by rw [g 8 (by omega)]; exact p8, by rw [g 9 (by omega)]; exact p9, by unfold ref.get4; rw [g 12 (by omega), g 13 (by omega), g 14 (by omega), g 15 (by omega)]; exact p12, by unfold ref.get4; rw [g 16 (by omega), g 17 (by omega), g 18 (by omega), g 19 (by omega)]; exact p16⟩
end Go.Proofs.YtaoeflngdlgboaaDoor.ip
