/-
  Chapter 11 (udp): what stands behind a datagram is not looked at; an address that is unlike by one byte; an append that leaves the old row as it reads. Conditions: none but those typed.
-/
import Derived.Test.YtnhakcgkhhficaaUdpIa
import Derived.Test.YtnhakcgkhhficaaCpy
namespace Go.Proofs.Ytnhakcgkhhficaa.udp
set_option linter.unusedVariables false
set_option linter.unusedSimpArgs false
open Go.ChangeShapes Go.WideShapes Go.ChangeAt Go.RowKit Go.IntWalk Go.Lib
/-- An append: the old row still reads as it did. -/
theorem app_old {P : Program} (w : World) {k : IntKind} {e t : TypeId} {bytes : Nat} (E : Elem P t e k bytes) (ty : TypeId) (base g n cap : Nat) (xs : List Int) (hown : Own k e w base (.slice (some ⟨g, 0, none⟩) n cap) xs) (A : Option Addr) (m c : Nat) (l : List Int) (hr : Rd k w A m l) (hc0 : A = none → c = 0)
    (hb : (n + m) * bytes ≤ 140737488355328) (h63 : n + m ≤ maxLen) (hbase : base ≤ w.heap.size) :
    ∃ v' w', (Builtin.append_ #[t, t] ty #[.slice (some ⟨g, 0, none⟩) n cap, .slice A m c]).run P w = .ok v' w' ∧ Own k e w' base v' (xs ++ l) ∧ w.grownBy w' (some g) ∧ Rd k w' (some ⟨g, 0, none⟩) n xs := by
  have hn := hown.len.1
  obtain ⟨v', w', hrun, ho, hg, hblk⟩ := run_app (P := P) w E ty base _ xs hown A m c l hr hc0 (by rw [hn]; exact hb) (by rw [hn]; exact h63) hbase
  refine ⟨v', w', hrun, ho, hg, ?_⟩
  rcases hblk with h | h
  · -- in place
    rcases Nat.eq_zero_or_pos n with h0 | h0
    · subst h0
      obtain rfl : xs = [] := List.eq_nil_of_length_eq_zero hn
      exact Rd.nil _ _ _
    · obtain ⟨g', cap', ev⟩ := ho.some_form (by rw [List.length_append]; omega)
      subst ev
      have hgg : g' = g := by simpa [Value.ownBlock] using h
      subst hgg
      have := ho.rd.take n (by rw [List.length_append]; omega)
      rwa [List.take_append_of_le_length (by omega), List.take_of_length_le (by omega)] at this
  · have hgl := hown.base_le.2
    obtain ⟨i, hi, hz, hs, hby⟩ := info_parts E.info
    have hown1 : w.ownsRow base e 1 (.slice (some ⟨g, 0, none⟩) n cap) n (xs.map (Value.int k)) := by have := hown.1; rwa [hn] at this
    rcases A with _ | ad
    · have hr2 := run_append_owned_none (P := P) w base t ty e i 1 E.ht hi _ _ _ hown1
      rw [hc0 rfl, show m = 0 from by
        rcases Nat.eq_zero_or_pos m with h0 | h0
        · exact h0
        · obtain ⟨b, off, h, _⟩ := hr.cells h0; cases h] at hrun
      rw [hr2] at hrun
      injection hrun with e1 e2
      subst e2
      have := hown.rd
      exact this
    · have hnews : ∀ j u, (l.map (Value.int k))[j]? = some u → w.cell? (ad.add j) = some u := by
        intro j u hu
        have hj : j < l.length := by
          rcases Nat.lt_or_ge j l.length with h | h
          · exact h
          · rw [List.getElem?_eq_none (by simpa using h)] at hu; cases hu
        obtain ⟨b, off, h, hc⟩ := hr.cells (by rw [← hr.len]; omega)
        injection h with h
        subst h
        rw [addr_plus, hc j (by rw [← hr.len]; exact hj)]
        rw [List.getElem?_map, List.getElem?_eq_getElem hj] at hu
        rw [← hu, List.getD_eq_getElem?_getD, List.getElem?_eq_getElem hj]
        rfl
      by_cases hroom : n + m ≤ cap
      · obtain ⟨w2, hr2, _, _⟩ := run_append_fits (P := P) w base t ty e i 1 E.ht hi hs g n cap _ hown1 ad m c (l.map (Value.int k)) (by simp [hr.len]) hnews (by intro u hu; obtain ⟨y, _, rfl⟩ := List.mem_map.1 hu; rfl) hroom
        rw [hr2] at hrun
        injection hrun with e1 e2
        subst e1
        simp [Value.ownBlock] at h
        omega
      · have holds : ∀ j u, (xs.map (Value.int k))[j]? = some u → w.cell? ((⟨g, 0, none⟩ : Addr).add j) = some u := hown1.cells (g := g) rfl
        have h9 : n + m ≤ 9223372036854775807 := by simp only [maxLen] at h63; omega
        have hr2 := run_append_grow (P := P) w t ty e i (.int k 0) E.ht hi hz ⟨g, 0, none⟩ n cap (xs.map (Value.int k)) (by rw [hs]; simp [hn]) holds ad m c (l.map (Value.int k)) (by rw [hs]; simp [hr.len]) hnews (by omega) (by omega) (growslice_fits (by omega) (by rw [hby]; exact hb))
        rw [hr2] at hrun
        injection hrun with e1 e2
        subst e2
        exact (hown.rd.drew).alloc _
theorem moreE (fr fp to tp : Int) (l q : List Int) (hl : l.length ≤ 65507) (hg : Good fp tp) (hw : ∀ z ∈ l, 0 ≤ z ∧ z ≤ 255) (h1 : 0 ≤ fr ∧ fr ≤ 4294967295) (h2 : 0 ≤ to ∧ to ≤ 4294967295) :
    dE fr to (encU fr fp to tp l ++ q) = 0 ∧ dD fr to (encU fr fp to tp l ++ q) = l ∧ ref.get2 (encU fr fp to tp l ++ q) 0 = fp ∧ ref.get2 (encU fr fp to tp l ++ q) 2 = tp := by
  have h0 := whomE fr fp to tp fr to l hl hg hw h1 h2 h1 h2
  rw [if_pos (by simp)] at h0
  obtain ⟨g1, g2⟩ := hg
  have hE : ∃ s, encU fr fp to tp l = body fp tp s l := ⟨_, rfl⟩
  obtain ⟨s, hE⟩ := hE
  rw [hE] at h0 ⊢
  have hlen : (body fp tp s l).length = 8 + l.length := body_len _ _ _ _
  have hG : ∀ i, i + 1 < 8 → ref.get2 (body fp tp s l ++ q) i = ref.get2 (body fp tp s l) i := fun i hi => by
    unfold ref.get2
    simp only [List.getD_eq_getElem?_getD]
    rw [List.getElem?_append_left (by omega), List.getElem?_append_left (by omega)]
  have hL : lenU (body fp tp s l) = 8 + (l.length : Int) := by
    unfold lenU
    simp [ref.get2, body]; omega
  have hL2 : lenU (body fp tp s l ++ q) = 8 + (l.length : Int) := by
    rw [← hL]; exact hG 4 (by omega)
  have hT : (8 + (l.length : Int)).toNat = 8 + l.length := by omega
  have hB : badU fr to (body fp tp s l ++ q) = badU fr to (body fp tp s l) := by
    unfold badU
    rw [hG 6 (by omega), hL, hL2, hT, List.take_append_of_le_length (by omega)]
  have hd : dE fr to (body fp tp s l ++ q) = 0 := by
    unfold dE at h0 ⊢
    rw [if_neg (by rw [hlen]; omega), if_neg (by rw [hL]; omega), if_neg (by rw [hL, hlen]; omega)] at h0
    rw [if_neg (by rw [List.length_append, hlen]; omega), if_neg (by rw [hL2]; omega), if_neg (by rw [hL2, List.length_append, hlen]; omega), hB]
    exact h0
  refine ⟨hd, ?_, ?_, ?_⟩
  · unfold dD
    rw [if_pos hd, hL2, hT]
    have e1 : (body fp tp s l ++ q).drop 8 = l ++ q := by simp [body]
    rw [e1, show 8 + l.length - 8 = l.length from by omega, List.take_append_of_le_length (by omega), List.take_of_length_le (by omega)]
  · rw [hG 0 (by omega)]; simp [ref.get2, body]; omega
  · rw [hG 2 (by omega)]; simp [ref.get2, body]; omega
/-- One byte of an address turned. -/
theorem xor32 (a y : Int) (ha : 0 ≤ a ∧ a ≤ 4294967295) (hy : 1 ≤ y ∧ y ≤ 255) : ∃ b, bits .xor .u32 a y = b ∧ 0 ≤ b ∧ b ≤ 4294967295 ∧ b / 256 = a / 256 ∧ b ≠ a := by
  obtain ⟨N, rfl⟩ := Int.eq_ofNat_of_zero_le ha.1
  obtain ⟨Y, rfl⟩ := Int.eq_ofNat_of_zero_le (show 0 ≤ y by omega)
  have hN : N < 4294967296 := by omega
  have hY : 1 ≤ Y ∧ Y ≤ 255 := by omega
  have key : (BitVec.ofInt 32 (N : Int) ^^^ BitVec.ofInt 32 (Y : Int)).toNat = N ^^^ Y := by
    rw [BitVec.toNat_xor, BitVec.toNat_ofInt, BitVec.toNat_ofInt]
    have e1 : ((N : Int) % ((2 ^ 32 : Nat) : Int)).toNat = N := by omega
    have e2 : ((Y : Int) % ((2 ^ 32 : Nat) : Int)).toNat = Y := by omega
    rw [e1, e2]
  have hx : N ^^^ Y < 2 ^ 32 := Nat.xor_lt_two_pow (by omega) (by omega)
  have hd : (N ^^^ Y) / 2 ^ 8 = N / 2 ^ 8 := by
    rw [Nat.xor_div_two_pow, show Y / 2 ^ 8 = 0 from by omega, Nat.xor_zero]
  have hne : N ^^^ Y ≠ N := fun h => by
    have h9 : N ^^^ (N ^^^ Y) = N ^^^ N := by rw [h]
    rw [← Nat.xor_assoc, Nat.xor_self, Nat.zero_xor] at h9
    omega
  refine ⟨((N ^^^ Y : Nat) : Int), ?_, by omega, by omega, by omega, by omega⟩
  show IntKind.u32.wrap ((BitVec.ofInt 32 (N : Int) ^^^ BitVec.ofInt 32 (Y : Int)).toNat : Nat) = _
  rw [key, IntKind.wrap_u32]
  omega
theorem xorE (fr fp to tp f : Int) (l : List Int) (hl : l.length ≤ 65507) (hg : Good fp tp) (hw : ∀ z ∈ l, 0 ≤ z ∧ z ≤ 255) (h1 : 0 ≤ fr ∧ fr ≤ 4294967295) (h2 : 0 ≤ to ∧ to ≤ 4294967295) (h3 : 0 ≤ f ∧ f ≤ 4294967295) (hd : f / 256 = fr / 256) (hne : f ≠ fr) :
    dE f to (encU fr fp to tp l) = 4 := by
  rw [whomE fr fp to tp f to l hl hg hw h1 h2 h3 h2, if_neg]
  unfold W4
  have e1 : f / 65536 = fr / 65536 := by omega
  have e2 : f % 65536 - fr % 65536 = f - fr := by omega
  have e3 : -255 ≤ f - fr ∧ f - fr ≤ 255 := by omega
  rw [e1]
  generalize fr / 65536 = x
  generalize to / 65536 = y
  generalize to % 65536 = z
  omega
end Go.Proofs.Ytnhakcgkhhficaa.udp
