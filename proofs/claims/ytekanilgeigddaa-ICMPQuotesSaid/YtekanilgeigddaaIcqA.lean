/-
  Chapter 9 (icmp): what a quoted header's numbers are. Conditions: none but those typed.
-/
import Derived.Test.YtekanilgeigddaaIqF
import Derived.Test.YtekanilgeigddaaRdr
import Derived.Test.YtekanilgeigddaaRef6
namespace Go.Proofs.Ytekanilgeigddaa.ip
set_option linter.unusedVariables false
set_option linter.unusedSimpArgs false
open Go.ChangeShapes Go.WideShapes Go.ChangeAt Go.RowKit Go.IntWalk Go.Lib
theorem take1 (l : List Int) (i : Nat) (h : i < l.length) : (l.drop i).take 1 = [l.getD i 0] := by
  rw [List.drop_eq_getElem_cons h, List.take_succ_cons, List.take_zero, List.getD_eq_getElem?_getD, List.getElem?_eq_getElem h]; rfl
theorem takeS (l : List Int) (i k : Nat) (h : i < l.length) : (l.drop i).take (k + 1) = l.getD i 0 :: (l.drop (i + 1)).take k := by
  rw [List.drop_eq_getElem_cons h, List.take_succ_cons, List.getD_eq_getElem?_getD, List.getElem?_eq_getElem h]; rfl
theorem num_get2 (l : List Int) (i : Nat) (h : i + 2 ≤ l.length) : rdr.num ((l.drop i).take 2) = ref.get2 l i := by
  rw [takeS l i 1 (by omega), take1 l (i + 1) (by omega)]; simp [rdr.num, ref.get2]
theorem num_get4 (l : List Int) (i : Nat) (h : i + 4 ≤ l.length) : rdr.num ((l.drop i).take 4) = ref.get4 l i := by
  rw [takeS l i 3 (by omega), takeS l (i + 1) 2 (by omega), takeS l (i + 1 + 1) 1 (by omega), take1 l (i + 1 + 1 + 1) (by omega)]; simp [rdr.num, ref.get4, Nat.add_assoc]; omega
theorem num_one (l : List Int) (i : Nat) (h : i < l.length) : rdr.num ((l.drop i).take 1) = l.getD i 0 := by
  rw [take1 l i h]; simp [rdr.num]
theorem at16' (x : Int) (h : 0 ≤ x ∧ x ≤ 65535) : x / 256 % 256 * 256 + x % 256 = x := by omega
theorem at32' (x : Int) (h : 0 ≤ x ∧ x ≤ 4294967295) : x / 16777216 % 256 * 16777216 + x / 65536 % 256 * 65536 + x / 256 % 256 * 256 + x % 256 = x := by omega
theorem at8' (x : Int) (h : 0 ≤ x ∧ x ≤ 255) : x % 256 = x := by omega
theorem pbs_at2' (off : Int) (wh mo : Bool) (h : 0 ≤ off ∧ off ≤ 65528) : (0 ≤ pbs off wh mo ∧ pbs off wh mo ≤ 65535) ∧ pbs off wh mo / 256 % 256 = off / 8 / 256 + (if wh then 64 else 0) + (if mo then 32 else 0) ∧ pbs off wh mo % 8192 = off / 8 := by
  unfold pbs
  cases wh <;> cases mo <;> simp only [if_true, if_false, Bool.false_eq_true] <;> omega
theorem at20' (a0 a1 a2 a3 a4 a5 a6 a7 a8 a9 a10 a11 a12 a13 a14 a15 a16 a17 a18 a19 : Int) (t : List Int) : (a0 :: a1 :: a2 :: a3 :: a4 :: a5 :: a6 :: a7 :: a8 :: a9 :: a10 :: a11 :: a12 :: a13 :: a14 :: a15 :: a16 :: a17 :: a18 :: a19 :: t).getD 1 0 = a1 ∧ (a0 :: a1 :: a2 :: a3 :: a4 :: a5 :: a6 :: a7 :: a8 :: a9 :: a10 :: a11 :: a12 :: a13 :: a14 :: a15 :: a16 :: a17 :: a18 :: a19 :: t).getD 2 0 = a2 ∧ (a0 :: a1 :: a2 :: a3 :: a4 :: a5 :: a6 :: a7 :: a8 :: a9 :: a10 :: a11 :: a12 :: a13 :: a14 :: a15 :: a16 :: a17 :: a18 :: a19 :: t).getD 3 0 = a3 ∧ (a0 :: a1 :: a2 :: a3 :: a4 :: a5 :: a6 :: a7 :: a8 :: a9 :: a10 :: a11 :: a12 :: a13 :: a14 :: a15 :: a16 :: a17 :: a18 :: a19 :: t).getD 4 0 = a4 ∧ (a0 :: a1 :: a2 :: a3 :: a4 :: a5 :: a6 :: a7 :: a8 :: a9 :: a10 :: a11 :: a12 :: a13 :: a14 :: a15 :: a16 :: a17 :: a18 :: a19 :: t).getD 5 0 = a5 ∧ (a0 :: a1 :: a2 :: a3 :: a4 :: a5 :: a6 :: a7 :: a8 :: a9 :: a10 :: a11 :: a12 :: a13 :: a14 :: a15 :: a16 :: a17 :: a18 :: a19 :: t).getD 6 0 = a6 ∧ (a0 :: a1 :: a2 :: a3 :: a4 :: a5 :: a6 :: a7 :: a8 :: a9 :: a10 :: a11 :: a12 :: a13 :: a14 :: a15 :: a16 :: a17 :: a18 :: a19 :: t).getD 7 0 = a7 ∧ (a0 :: a1 :: a2 :: a3 :: a4 :: a5 :: a6 :: a7 :: a8 :: a9 :: a10 :: a11 :: a12 :: a13 :: a14 :: a15 :: a16 :: a17 :: a18 :: a19 :: t).getD 8 0 = a8 ∧ (a0 :: a1 :: a2 :: a3 :: a4 :: a5 :: a6 :: a7 :: a8 :: a9 :: a10 :: a11 :: a12 :: a13 :: a14 :: a15 :: a16 :: a17 :: a18 :: a19 :: t).getD 9 0 = a9 ∧ (a0 :: a1 :: a2 :: a3 :: a4 :: a5 :: a6 :: a7 :: a8 :: a9 :: a10 :: a11 :: a12 :: a13 :: a14 :: a15 :: a16 :: a17 :: a18 :: a19 :: t).getD 12 0 = a12 ∧ (a0 :: a1 :: a2 :: a3 :: a4 :: a5 :: a6 :: a7 :: a8 :: a9 :: a10 :: a11 :: a12 :: a13 :: a14 :: a15 :: a16 :: a17 :: a18 :: a19 :: t).getD 13 0 = a13 ∧ (a0 :: a1 :: a2 :: a3 :: a4 :: a5 :: a6 :: a7 :: a8 :: a9 :: a10 :: a11 :: a12 :: a13 :: a14 :: a15 :: a16 :: a17 :: a18 :: a19 :: t).getD 14 0 = a14 ∧ (a0 :: a1 :: a2 :: a3 :: a4 :: a5 :: a6 :: a7 :: a8 :: a9 :: a10 :: a11 :: a12 :: a13 :: a14 :: a15 :: a16 :: a17 :: a18 :: a19 :: t).getD 15 0 = a15 ∧ (a0 :: a1 :: a2 :: a3 :: a4 :: a5 :: a6 :: a7 :: a8 :: a9 :: a10 :: a11 :: a12 :: a13 :: a14 :: a15 :: a16 :: a17 :: a18 :: a19 :: t).getD 16 0 = a16 ∧ (a0 :: a1 :: a2 :: a3 :: a4 :: a5 :: a6 :: a7 :: a8 :: a9 :: a10 :: a11 :: a12 :: a13 :: a14 :: a15 :: a16 :: a17 :: a18 :: a19 :: t).getD 17 0 = a17 ∧ (a0 :: a1 :: a2 :: a3 :: a4 :: a5 :: a6 :: a7 :: a8 :: a9 :: a10 :: a11 :: a12 :: a13 :: a14 :: a15 :: a16 :: a17 :: a18 :: a19 :: t).getD 18 0 = a18 ∧ (a0 :: a1 :: a2 :: a3 :: a4 :: a5 :: a6 :: a7 :: a8 :: a9 :: a10 :: a11 :: a12 :: a13 :: a14 :: a15 :: a16 :: a17 :: a18 :: a19 :: t).getD 19 0 = a19 := ⟨rfl, rfl, rfl, rfl, rfl, rfl, rfl, rfl, rfl, rfl, rfl, rfl, rfl, rfl, rfl, rfl, rfl⟩
theorem places_at2 {sv pid off lf pr : Int} {wh mo : Bool} {fr to : Int} {o d : List Int} (h : chk sv pid off lf pr o d.length = 0) (hf : 0 ≤ fr ∧ fr ≤ 4294967295) (ht : 0 ≤ to ∧ to ≤ 4294967295) (E : List Int) (hE : E = encP sv pid off lf pr wh mo fr to o d) :
    E.getD 1 0 = sv ∧ E.getD 2 0 * 256 + E.getD 3 0 = (hl o.length : Int) + d.length ∧ E.getD 4 0 * 256 + E.getD 5 0 = pid ∧ E.getD 6 0 * 256 + E.getD 7 0 = pbs off wh mo ∧ E.getD 8 0 = lf ∧ E.getD 9 0 = pr ∧ E.getD 12 0 * 16777216 + E.getD 13 0 * 65536 + E.getD 14 0 * 256 + E.getD 15 0 = fr ∧ E.getD 16 0 * 16777216 + E.getD 17 0 * 65536 + E.getD 18 0 * 256 + E.getD 19 0 = to ∧ E.getD 6 0 = off / 8 / 256 + (if wh then 64 else 0) + (if mo then 32 else 0) ∧ E.drop (hl o.length) = d := by
  obtain ⟨hN, hn40, hok, hll⟩ := chk0 h
  unfold Nums at hN
  have hb := hl_bd o.length
  subst hE
  obtain ⟨a0, a10, a11, t, hc⟩ : ∃ a0 a10 a11 t, encP sv pid off lf pr wh mo fr to o d = (a0) :: (sv % 256) :: (((hl o.length : Nat) + (d.length : Int)) / 256 % 256) :: (((hl o.length : Nat) + (d.length : Int)) % 256) :: (pid / 256 % 256) :: (pid % 256) :: (pbs off wh mo / 256 % 256) :: (pbs off wh mo % 256) :: (lf % 256) :: (pr % 256) :: (a10) :: (a11) :: (fr / 16777216 % 256) :: (fr / 65536 % 256) :: (fr / 256 % 256) :: (fr % 256) :: (to / 16777216 % 256) :: (to / 65536 % 256) :: (to / 256 % 256) :: (to % 256) :: t :=
    ⟨(64 + (hl o.length : Nat) / 4 : Int) % 256, sumH sv pid off lf pr wh mo fr to o d.length / 256 % 256, sumH sv pid off lf pr wh mo fr to o d.length % 256, o ++ (List.replicate (hl o.length - 20 - o.length) 0 ++ d), by simp only [encP, hdr, b2, b4, List.append_assoc, List.cons_append, List.nil_append, List.singleton_append]⟩
  obtain ⟨e1, e2, e3, e4, e5, e6, e7, e8, e9, e12, e13, e14, e15, e16, e17, e18, e19⟩ := at20' (a0) (sv % 256) (((hl o.length : Nat) + (d.length : Int)) / 256 % 256) (((hl o.length : Nat) + (d.length : Int)) % 256) (pid / 256 % 256) (pid % 256) (pbs off wh mo / 256 % 256) (pbs off wh mo % 256) (lf % 256) (pr % 256) (a10) (a11) (fr / 16777216 % 256) (fr / 65536 % 256) (fr / 256 % 256) (fr % 256) (to / 16777216 % 256) (to / 65536 % 256) (to / 256 % 256) (to % 256) t
  rw [← hc] at e1 e2 e3 e4 e5 e6 e7 e8 e9 e12 e13 e14 e15 e16 e17 e18 e19
  rw [e1, e2, e3, e4, e5, e6, e7, e8, e9, e12, e13, e14, e15, e16, e17, e18, e19]
  have hdr' : (encP sv pid off lf pr wh mo fr to o d).drop (hl o.length) = d := by
    unfold encP
    rw [← hdr_len sv pid off lf pr wh mo fr to o d.length (sumH sv pid off lf pr wh mo fr to o d.length)]
    exact List.drop_left
  clear e1 e2 e3 e4 e5 e6 e7 e8 e9 e12 e13 e14 e15 e16 e17 e18 e19 hc
  obtain ⟨hpb, hpf, _⟩ := pbs_at2' off wh mo hN.2.2.2.2.1
  exact ⟨at8' _ hN.1, at16' _ (by omega), at16' _ hN.2.2.2.1, at16' _ hpb, at8' _ hN.2.1, at8' _ hN.2.2.1, at32' _ hf, at32' _ ht, hpf, hdr'⟩
theorem i64_and_nat (a b : Nat) (ha : a < 4294967296) (hb : b < 4294967296) : bits .and .i64 (a : Int) (b : Int) = ((a &&& b : Nat) : Int) := by
  show IntKind.i64.wrap ((BitVec.ofInt 64 (a : Int) &&& BitVec.ofInt 64 (b : Int)).toNat : Nat) = _
  rw [BitVec.toNat_and, BitVec.toNat_ofInt, BitVec.toNat_ofInt]
  have e1 : ((a : Int) % ((2 ^ 64 : Nat) : Int)).toNat = a := by
    have : (a : Int) % ((2 ^ 64 : Nat) : Int) = a := Int.emod_eq_of_lt (by omega) (by omega)
    rw [this]; rfl
  have e2 : ((b : Int) % ((2 ^ 64 : Nat) : Int)).toNat = b := by
    have : (b : Int) % ((2 ^ 64 : Nat) : Int) = b := Int.emod_eq_of_lt (by omega) (by omega)
    rw [this]; rfl
  rw [e1, e2]
  have hle : a &&& b ≤ a := Nat.and_le_left
  exact i64_in _ (by omega)
theorem getD_app (E q : List Int) (i : Nat) (h : i < E.length) : (E ++ q).getD i 0 = E.getD i 0 := by
  rw [List.getD_eq_getElem?_getD, List.getD_eq_getElem?_getD, List.getElem?_append_left h]
/-- A header, and bytes behind it. -/
theorem quo_facts {sv pid off lf pr : Int} {wh mo : Bool} {fr to : Int} {o d : List Int} (h : chk sv pid off lf pr o d.length = 0) (hf : 0 ≤ fr ∧ fr ≤ 4294967295) (ht : 0 ≤ to ∧ to ≤ 4294967295) (t Q : List Int)
    (hQ : Q = hdr sv pid off lf pr wh mo fr to o d.length (sumH sv pid off lf pr wh mo fr to o d.length) ++ t) :
    Q.length = hl o.length + t.length ∧ rdr.num (Q.take 1) = 64 + ((hl o.length / 4 : Nat) : Int) ∧ rdr.num ((Q.drop 6).take 2) = pbs off wh mo ∧ rdr.num ((Q.drop 9).take 1) = pr ∧ rdr.num ((Q.drop 12).take 4) = fr ∧ rdr.num ((Q.drop 16).take 4) = to ∧ Q.drop (hl o.length) = t := by
  obtain ⟨hN, hn40, hok, hll⟩ := chk0 h
  have hb := hl_bd o.length
  have hl60 : hl o.length ≤ 60 := by unfold hl; omega
  have HPL := places_at2 h hf ht (encP sv pid off lf pr wh mo fr to o d) rfl
  have hlen : Q.length = hl o.length + t.length := by rw [hQ, List.length_append, hdr_len]
  have h0 : Q.getD 0 0 = (64 + (hl o.length : Nat) / 4 : Int) % 256 := by rw [hQ]; rfl
  have hdl : (hdr sv pid off lf pr wh mo fr to o d.length (sumH sv pid off lf pr wh mo fr to o d.length)).length = hl o.length := hdr_len ..
  have g : ∀ i, i < hl o.length → Q.getD i 0 = (encP sv pid off lf pr wh mo fr to o d).getD i 0 := fun i hi => by
    rw [hQ, getD_app _ _ _ (by rw [hdl]; exact hi)]
    unfold encP
    rw [getD_app _ _ _ (by rw [hdl]; exact hi)]
  obtain ⟨p1, p2, p4, p6, p8, p9, p12, p16, _, _⟩ := HPL
  refine ⟨hlen, ?_, ?_, ?_, ?_, ?_, ?_⟩
  · have := num_one Q 0 (by omega)
    rw [List.drop_zero] at this
    rw [this, h0]; omega
  · rw [num_get2 Q 6 (by omega)]; unfold ref.get2; rw [g 6 (by omega), g 7 (by omega)]; exact p6
  · rw [num_one Q 9 (by omega), g 9 (by omega)]; exact p9
  · rw [num_get4 Q 12 (by omega)]; unfold ref.get4; rw [g 12 (by omega), g 13 (by omega), g 14 (by omega), g 15 (by omega)]; exact p12
  · rw [num_get4 Q 16 (by omega)]; unfold ref.get4; rw [g 16 (by omega), g 17 (by omega), g 18 (by omega), g 19 (by omega)]; exact p16
  · rw [hQ, ← hdl, List.drop_left]
theorem and15 (k : Nat) (h : k < 16) : bits .and .i64 (64 + (k : Int)) 15 = (k : Int) := by
  have key : ∀ x : Fin 16, bits .and .i64 (64 + (x.val : Int)) 15 = (x.val : Int) := by decide +kernel
  exact key ⟨k, h⟩
end Go.Proofs.Ytekanilgeigddaa.ip
