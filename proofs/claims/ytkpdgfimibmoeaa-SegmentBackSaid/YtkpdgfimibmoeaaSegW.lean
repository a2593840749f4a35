/-
  Chapter 14 (segment): what Encode writes is read by Decode as it was, by a walk of its text. Conditions: none but those typed.
-/
import Derived.Test.YtkpdgfimibmoeaaSegV
import Derived.Test.YtkpdgfimibmoeaaSegN
namespace Go.Proofs.Ytkpdgfimibmoeaa.seg
set_option linter.unusedVariables false
set_option linter.unusedSimpArgs false
open Go.ChangeShapes Go.WideShapes Go.ChangeAt Go.RowKit Go.IntWalk Go.Lib
theorem and63 (x : Int) : bits .and .i64 x 63 = x % 64 := i64_mask x 6 63 (by decide) (by decide)
theorem encB_app (fr to sq ac fp tp fl wi ms sc : Int) (l : List Int) : ∃ p : List Int, p.length = 20 ∧ (encB fr to sq ac fp tp fl wi ms sc l) = p ++ (opt ms sc ++ l) := by
  unfold encB body
  exact ⟨[_, _, _, _, _, _, _, _, _, _, _, _, _, _, _, _, _, _, _, _], rfl, rfl⟩
theorem encB_opt (fr to sq ac fp tp fl wi ms sc : Int) (l : List Int) (o : Nat) (ho : (opt ms sc).length = o) : ((encB fr to sq ac fp tp fl wi ms sc l).drop 20).take o = opt ms sc ∧ (encB fr to sq ac fp tp fl wi ms sc l).drop (20 + o) = l := by
  obtain ⟨p, hp, he⟩ := encB_app fr to sq ac fp tp fl wi ms sc l
  rw [he]
  constructor
  · rw [List.drop_left' hp, List.take_left' ho]
  · rw [← List.append_assoc, List.drop_left' (by simp [hp, ho])]
structure Fields (fr to sq ac fp tp fl wi ms sc : Int) (l : List Int) : Prop where
  f1 : rdr.num ((encB fr to sq ac fp tp fl wi ms sc l).take 2) = fp
  f2 : rdr.num (((encB fr to sq ac fp tp fl wi ms sc l).drop 2).take 2) = tp
  f3 : rdr.num (((encB fr to sq ac fp tp fl wi ms sc l).drop 4).take 4) = sq
  f4 : rdr.num (((encB fr to sq ac fp tp fl wi ms sc l).drop 8).take 4) = ac
  f5 : bits .and .i64 (rdr.num (((encB fr to sq ac fp tp fl wi ms sc l).drop 13).take 1)) 63 = fl
  f6 : rdr.num (((encB fr to sq ac fp tp fl wi ms sc l).drop 14).take 2) = wi
theorem fields_enc (fr to sq ac fp tp fl wi ms sc : Int) (l : List Int) (h : Good fp tp fl wi ms sc) (h4 : 0 ≤ sq ∧ sq ≤ 4294967295) (h5 : 0 ≤ ac ∧ ac ≤ 4294967295) : Fields fr to sq ac fp tp fl wi ms sc l := by
  unfold Good at h
  refine ⟨?_, ?_, ?_, ?_, ?_, ?_⟩
  · unfold encB; simp [body, rdr.num]; omega
  · unfold encB; simp [body, rdr.num]; omega
  · unfold encB; simp [body, rdr.num]; omega
  · unfold encB; simp [body, rdr.num]; omega
  · unfold encB; rw [and63]; simp [body, rdr.num]; omega
  · unfold encB; simp [body, rdr.num]; omega
theorem enc12 (fr to sq ac fp tp fl wi ms sc : Int) (l : List Int) (o : Nat) (ho : (opt ms sc).length = o) : (encB fr to sq ac fp tp fl wi ms sc l).getD 12 0 = (20 + (o : Int)) / 4 * 16 % 256 := by
  subst ho
  unfold encB; simp [body]
set_option maxHeartbeats 2000000 in
theorem decEnc (w : World) (fr to sq ac fp tp fl wi ms sc : Int) (l : List Int) (B : Option Addr) (L c : Nat) (hB : Rd .u8 w B L (encB fr to sq ac fp tp fl wi ms sc l)) (hLc : L ≤ c) (hc0 : B = none → c = 0) (hg : Good fp tp fl wi ms sc) (h4 : 0 ≤ sq ∧ sq ≤ 4294967295) (h5 : 0 ≤ ac ∧ ac ≤ 4294967295) (hwl : ∀ z ∈ l, (Lit.int .u8 z).wf = true) (hk : l.length + (opt ms sc).length ≤ 65495) :
    Calls Try.prog 16 #[.int .u32 fr, .int .u32 to, .slice B L c] w fun x w' => ∃ v, x = .returned (.tuple #[.agg #[.int .u32 fr, .int .i64 fp, .int .u32 to, .int .i64 tp, .int .u32 sq, .int .u32 ac, .int .i64 fl, .int .i64 wi, .int .i64 ms, .int .i64 sc, v], .int .i64 0]) ∧ Own .u8 5 w' w.heap.size v l ∧ Only [] w w' := by
  have hf := fields_enc fr to sq ac fp tp fl wi ms sc l hg h4 h5
  have hL : L = 20 + (opt ms sc).length + l.length := by rw [← hB.len, encB_len]
  have hs : oct.sumF (psd fr to 6 L ++ (encB fr to sq ac fp tp fl wi ms sc l)) = 0 := enc_sum fr to sq ac fp tp fl wi ms sc l hwl L hB.len.symm
  have hg' := hg
  unfold Good at hg'
  by_cases hm : ms = 0
  · subst hm
    by_cases hc : sc = -1
    · subst hc
      have ho : (opt 0 (-1)).length = 0 := by decide
      refine (decOk0 w fr to B L c (encB fr to sq ac fp tp fl wi 0 (-1) l) fp tp sq ac fl wi 0 (-1) hB hc0 hLc (by omega) (by omega) (by rw [enc12 _ _ _ _ _ _ _ _ _ _ _ 0 ho]; rfl) hs ?_ hf.f1 hf.f2 hf.f3 hf.f4 hf.f5 hf.f6).mono ?_
      · intro w' A' c' h0 h1
        exact readN w' A' c'
      · rintro x w' ⟨v, rfl, h, q⟩
        exact ⟨v, rfl, by rw [(encB_opt _ _ _ _ _ _ _ _ _ _ _ 0 ho).2] at h; exact h, q⟩
    · have he : opt 0 sc = [1, 3, 3, sc] := by unfold opt; rw [if_pos rfl, if_neg hc]; simp; omega
      have ho : (opt 0 sc).length = 4 := by rw [he]; rfl
      refine (decOk4 w fr to B L c (encB fr to sq ac fp tp fl wi 0 sc l) fp tp sq ac fl wi 0 sc hB hc0 hLc (by omega) (by omega) (by rw [enc12 _ _ _ _ _ _ _ _ _ _ _ 4 ho]; rfl) hs ?_ hf.f1 hf.f2 hf.f3 hf.f4 hf.f5 hf.f6).mono ?_
      · intro w' A' c' h0 h1
        rw [(encB_opt _ _ _ _ _ _ _ _ _ _ _ 4 ho).1, he] at h0
        exact readS w' A' c' sc h0 h1 (by omega)
      · rintro x w' ⟨v, rfl, h, q⟩
        exact ⟨v, rfl, by rw [(encB_opt _ _ _ _ _ _ _ _ _ _ _ 4 ho).2] at h; exact h, q⟩
  · have e0 : ms / 256 % 256 * 256 + ms % 256 = ms := by omega
    by_cases hc : sc = -1
    · subst hc
      have he : opt ms (-1) = [2, 4, ms / 256 % 256, ms % 256] := by unfold opt; rw [if_neg hm, if_pos rfl]; simp
      have ho : (opt ms (-1)).length = 4 := by rw [he]; rfl
      refine (decOk4 w fr to B L c (encB fr to sq ac fp tp fl wi ms (-1) l) fp tp sq ac fl wi ms (-1) hB hc0 hLc (by omega) (by omega) (by rw [enc12 _ _ _ _ _ _ _ _ _ _ _ 4 ho]; rfl) hs ?_ hf.f1 hf.f2 hf.f3 hf.f4 hf.f5 hf.f6).mono ?_
      · intro w' A' c' h0 h1
        rw [(encB_opt _ _ _ _ _ _ _ _ _ _ _ 4 ho).1, he] at h0
        have := readM w' A' c' (ms / 256 % 256) (ms % 256) h0 h1 (by omega) (by omega)
        rwa [e0] at this
      · rintro x w' ⟨v, rfl, h, q⟩
        exact ⟨v, rfl, by rw [(encB_opt _ _ _ _ _ _ _ _ _ _ _ 4 ho).2] at h; exact h, q⟩
    · have he : opt ms sc = [2, 4, ms / 256 % 256, ms % 256, 1, 3, 3, sc] := by unfold opt; rw [if_neg hm, if_neg hc]; simp; omega
      have ho : (opt ms sc).length = 8 := by rw [he]; rfl
      refine (decOk8 w fr to B L c (encB fr to sq ac fp tp fl wi ms sc l) fp tp sq ac fl wi ms sc hB hc0 hLc (by omega) (by omega) (by rw [enc12 _ _ _ _ _ _ _ _ _ _ _ 8 ho]; rfl) hs ?_ hf.f1 hf.f2 hf.f3 hf.f4 hf.f5 hf.f6).mono ?_
      · intro w' A' c' h0 h1
        rw [(encB_opt _ _ _ _ _ _ _ _ _ _ _ 8 ho).1, he] at h0
        have := readMS w' A' c' (ms / 256 % 256) (ms % 256) sc h0 h1 (by omega) (by omega) (by omega)
        rwa [e0] at this
      · rintro x w' ⟨v, rfl, h, q⟩
        exact ⟨v, rfl, by rw [(encB_opt _ _ _ _ _ _ _ _ _ _ _ 8 ho).2] at h; exact h, q⟩
end Go.Proofs.Ytkpdgfimibmoeaa.seg
