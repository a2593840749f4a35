/-
  Chapter 6 (ipv4): what is known of known(), by a walk of its text. Conditions: none but those typed.
-/
import Derived.Test.YtaoeflngdlgboaaDoorIpU
import Derived.Test.YtaoeflngdlgboaaDoorIpE
namespace Go.Proofs.YtaoeflngdlgboaaDoor.ip
set_option linter.unusedVariables false
set_option linter.unusedSimpArgs false
open Go.ChangeShapes Go.WideShapes Go.ChangeAt Go.RowKit Go.IntWalk Go.Lib
theorem kParse : prsA (cut ⟨#[49, 48, 46, 48, 46, 48, 46, 49]⟩) = 167772161 ∧ prsE (cut ⟨#[49, 48, 46, 48, 46, 48, 46, 49]⟩) = 0 := by
  constructor <;> kernel_rfl
theorem kText : txt 167772161 = ⟨#[49, 48, 46, 48, 46, 48, 46, 49]⟩ := by kernel_rfl
theorem kEnc : encP 0 1 0 64 17 true false 167772161 167772162 [] [171] = [69, 0, 0, 21, 0, 1, 64, 0, 64, 17, 38, 213, 10, 0, 0, 1, 10, 0, 0, 2, 171] := by kernel_rfl
theorem kChk : chk 0 1 0 64 17 [] 1 = 0 := by kernel_rfl
set_option maxRecDepth 100000 in
set_option maxHeartbeats 2000000 in
theorem known (w : World) (m : Int) (hm : w.cell? ⟨1, 0, none⟩ = some (.int .i64 m)) (ht : Lib.TabIs Tryd.prog w "internal/strconv.uint64pow10" .u64 Lib.pow10Tab) : Calls Tryd.prog 17 #[] w fun x w' => x = .returned (.bool true) ∧ Only [] w w' := by
  have HT := hid ht
  have HP := parse1 w ⟨#[49, 48, 46, 48, 46, 48, 46, 49]⟩ m (by decide) hm
  rw [kParse.1, kParse.2] at HP
  have HP := hid HP
  clear ht hm
  go_enter Tryd.func17, Tryd.ntmps17
  go_wp2_with fail
  refine HP.out.mono ?_
  rintro x w1 ⟨rfl, o1⟩
  have HQ := hid o1; clear o1
  have HR : Hid (Rd .u8 (w1.alloc (.cells #[.int .u8 171] 5)) (some ⟨w1.heap.size, 0, none⟩) 1 [171]) := hid (Own.lit .u8 5 w1 w1.heap.size [171] _ 1 rfl rfl (Nat.le_refl _) (by simp [maxLen]) (by intro z hz; simp at hz; apply hlp.u8wf; omega)).rd
  have HQ := hid (HQ.out.alloc (.cells #[.int .u8 171] 5))
  go_wp2_with fail
  refine (enc1 _ 0 1 0 64 17 true false 167772161 167772162 none 0 0 (some ⟨w1.heap.size, 0, none⟩) 1 1 [] [171] (Rd.nil _ _ _) (fun _ => rfl) (by omega) (by unfold maxLen; omega) (by omega) HR.out (by simp) (by omega) kChk).mono ?_
  rintro x w2 ⟨v, rfl, hv, o2⟩
  rw [kEnc] at hv
  obtain ⟨g, cap, rfl⟩ := hv.some_form (by simp)
  have c0 := hv.cellD 10 (by simp)
  have c1 := hv.cellD 11 (by simp)
  simp at c0 c1
  have HQ2 := hid (HQ.out.trans o2)
  have HX := hid (text1 · 167772161 (by omega) (by omega) ·)
  clear hv o2
  go_wp2_with fail
  refine (HX.out _ (tab_only HT.out HQ2.out)).mono ?_
  rintro x w3 ⟨rfl, o3⟩
  rw [kText]
  have HQ3 := hid (HQ2.out.trans o3); clear o3
  go_wp2
  go_ret
  exact ⟨rfl, HQ3.out⟩
end Go.Proofs.YtaoeflngdlgboaaDoor.ip
