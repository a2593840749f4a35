/-
  Chapter 21 (name): a law, by a walk of its text: two names are one, if they are but for capital letters. Conditions: none but those typed.
-/
import Derived.Test.YtfoecnlbiaiibaaNamB
import Derived.Test.YtfoecnlbiaiibaaEvK21
namespace Go.Proofs.Ytfoecnlbiaiibaa.nam
set_option linter.unusedVariables false
set_option linter.unusedSimpArgs false
open Go.ChangeShapes Go.WideShapes Go.ChangeAt Go.RowKit Go.IntWalk Go.Lib
set_option maxRecDepth 100000 in
set_option maxHeartbeats 1000000 in
theorem names (w : World) (a b : ByteArray) (la : a.size ≤ maxLen) (lb : b.size ≤ maxLen) : Calls Try.prog 7 #[.string a, .string b] w fun x w' => x = .returned (.bool true) ∧ Only [] w w' := by
  rw [show maxLen = 9223372036854775807 from rfl] at la lb
  obtain ⟨q, hq⟩ : ∃ q, wrap64 ((a.size : Int) + (b.size : Int)) = q := ⟨_, rfl⟩
  by_cases hs : 3000 < q
  · clear la lb
    go_enter Try.func7, Try.ntmps7
    go_wp2_with fail
    go_ret
    exact ⟨rfl, Only.refl _ _⟩
  · have lc : (sml a).size ≤ 9223372036854775807 := by rw [sml_size]; exact la
    have LA := hid la; have LB := hid lb; have LC := hid lc
    clear la lb lc
    have HT := hid (sm_sml a)
    obtain ⟨y, hy⟩ : ∃ y, sm a b = y := ⟨_, rfl⟩
    have HS := hid hy
    have HY : Hid (sm b a = y) := hid (by rw [sm_symm, hy])
    clear hy
    rcases y with _ | _
    all_goals
      go_enter Try.func7, Try.ntmps7
      go_wp2_with fail
      refine (same1 _ a b LA.out LB.out).mono ?_
      rintro x w1 ⟨rfl, h1⟩
      have Q1 := hid h1
      clear h1
      rw [HS.out]
      go_wp2_with fail
      refine (rsame1 _ a b LA.out LB.out).mono ?_
      rintro x w2 ⟨rfl, h2⟩
      have Q2 := hid (Q1.out.trans h2)
      clear h2 Q1
      rw [HS.out]
      go_wp2_with fail
      refine (small1 _ a LA.out).mono ?_
      rintro x w3 ⟨rfl, h3⟩
      have Q3 := hid (Q2.out.trans h3)
      clear h3 Q2
      go_wp2_with fail
      refine (same1 _ a (sml a) LA.out LC.out).mono ?_
      rintro x w4 ⟨rfl, h4⟩
      have Q4 := hid (Q3.out.trans h4)
      clear h4 Q3
      rw [HT.out]
      go_wp2_with fail
      refine (same1 _ b a LB.out LA.out).mono ?_
      rintro x w5 ⟨rfl, h5⟩
      have Q5 := hid (Q4.out.trans h5)
      clear h5 Q4
      rw [HY.out]
      go_wp2_with fail
      refine (same1 _ a b LA.out LB.out).mono ?_
      rintro x w6 ⟨rfl, h6⟩
      have Q6 := hid (Q5.out.trans h6)
      clear h6 Q5
      rw [HS.out]
      go_wp2_with fail
      refine (ev.known _).mono ?_
      rintro x w7 ⟨rfl, h7⟩
      have Q7 := hid (Q6.out.trans h7)
      clear h7 Q6
      go_wp2_with fail
      go_ret
      exact ⟨rfl, Q7.out⟩
end Go.Proofs.Ytfoecnlbiaiibaa.nam
