/-
  Chapter 6 (ipv4): an address out of text, and as text, by a walk of each text; the library's functions by its contracts. Conditions: none but those typed.
-/
import Derived.Test.YtaoeflngdlgboaaDoorIpT
import Derived.Test.YtaoeflngdlgboaaDoorSrw
import Derived.Test.YtaoeflngdlgboaaDoorBit
import Derived.Laws.BitsAllLaws
namespace Go.Proofs.YtaoeflngdlgboaaDoor.ip
set_option linter.unusedVariables false
set_option linter.unusedSimpArgs false
open Go.ChangeShapes Go.WideShapes Go.ChangeAt Go.RowKit Go.IntWalk Go.Lib
def dot : ByteArray := ⟨#[46]⟩
/-- A text cut at its dots, four times at most. -/
def cut (s : ByteArray) : List ByteArray := Lib.splitB ⟨#[46]⟩ 0 (min 5 (s.size + 1) - 1) s
def pt (L : List ByteArray) (k : Nat) : ByteArray := L.getD k ByteArray.empty
def pf (L : List ByteArray) : Nat → Int
  | 0 => 0
  | k + 1 => pf L k * 256 + num (pt L k)
theorem pf_bd (L : List ByteArray) : ∀ k : Nat, 0 ≤ pf L k ∧ pf L k ≤ 256 ^ k - 1
  | 0 => by simp [pf]
  | k + 1 => by
    have h1 := pf_bd L k
    have h2 := num_bd (pt L k)
    have e : (256 : Int) ^ (k + 1) = 256 ^ k * 256 := Int.pow_succ _ _
    simp only [pf]
    omega
def okP (L : List ByteArray) : Bool := decide (L.length = 4) && (okN (pt L 0) && (okN (pt L 1) && (okN (pt L 2) && okN (pt L 3))))
theorem okP_iff (L : List ByteArray) : okP L = true ↔ (L.length = 4 ∧ ∀ j, j < 4 → okN (pt L j) = true) := by
  unfold okP
  simp only [Bool.and_eq_true, decide_eq_true_eq]
  constructor
  · rintro ⟨h, h0, h1, h2, h3⟩
    refine ⟨h, fun j hj => ?_⟩
    rcases (show j = 0 ∨ j = 1 ∨ j = 2 ∨ j = 3 by omega) with rfl | rfl | rfl | rfl <;> assumption
  · rintro ⟨h, hk⟩
    exact ⟨h, hk 0 (by omega), hk 1 (by omega), hk 2 (by omega), hk 3 (by omega)⟩
def prsA (L : List ByteArray) : Int := if okP L = true then pf L 4 else 0
def prsE (L : List ByteArray) : Int := if okP L = true then 0 else 3
set_option maxRecDepth 100000 in
set_option maxHeartbeats 4000000 in
theorem parse1 (w : World) (s : ByteArray) (m : Int) (hs : s.size < 4294967281) (hm : w.cell? ⟨1, 0, none⟩ = some (.int .i64 m)) : Calls Tryd.prog 24 #[.string s] w fun x w' => x = .returned (.tuple #[.int .u32 (prsA (cut s)), .int .i64 (prsE (cut s))]) ∧ Only [] w w' := by
  have HBad : Hid (¬ ((cut s).length = 4 ∧ ∀ j, j < 4 → okN (pt (cut s) j) = true) → prsA (cut s) = 0 ∧ prsE (cut s) = 3) := hid (fun h => by
    have e : okP (cut s) = false := by cases h2 : okP (cut s) with | false => rfl | true => exact absurd ((okP_iff _).1 h2) h
    exact ⟨by unfold prsA; rw [e]; rfl, by unfold prsE; rw [e]; rfl⟩)
  have HGood : Hid (((cut s).length = 4 ∧ ∀ j, j < 4 → okN (pt (cut s) j) = true) → prsA (cut s) = pf (cut s) 4 ∧ prsE (cut s) = 0) := hid (fun h => by
    have e : okP (cut s) = true := (okP_iff _).2 h
    exact ⟨by unfold prsA; rw [if_pos e], by unfold prsE; rw [if_pos e]⟩)
  have HSP := shSplit s ⟨#[46]⟩ 5 m w hs hm (by decide) (by omega) (by omega)
  rw [show Lib.splitB ⟨#[46]⟩ 0 (min 5 (s.size + 1) - 1) s = cut s from rfl] at HSP
  generalize min 5 (s.size + 1) = N at *
  generalize cut s = L at *
  have HSP := hid HSP
  clear hm hs
  have HQ : Hid (Only [] w (w.alloc (.cells (Lib.cellsOf L N) 9))) := hid ((Only.refl [] w).alloc _)
  have HOb : Hid (Ob (w.alloc (.cells (Lib.cellsOf L N) 9)) w.heap.size 9 (Lib.cellsOf L N)) := hid (Ob.new _ _ _)
  have HCell : Hid (∀ j, j < L.length → (Lib.cellsOf L N)[j]? = some (.string (pt L j))) := hid (fun j hj => by
    unfold Lib.cellsOf pt
    rw [List.getElem?_toArray, List.getElem?_append_left (by simpa using hj), List.getElem?_map, List.getElem?_eq_getElem hj]
    simp [List.getD_eq_getElem?_getD, hj])
  generalize Lib.cellsOf L N = cells at *
  by_cases h4 : L.length = 4
  · have d4 : ((L.length : Int) != 4) = false := by simp; omega
    go_enter Tryd.func24, Tryd.ntmps24
    go_wp2_with fail
    refine HSP.out.mono ?_
    rintro x w1 ⟨rfl, rfl⟩
    go_wp2
    go_loopw [5, 17] (fun a ct wr => ∃ k : Nat, k ≤ 4 ∧ ct = .int .i64 k ∧ a = .int .u32 (pf L k) ∧ Hid (∀ j, j < k → okN (pt L j) = true) ∧ Hid (Only [] (w.alloc (.cells cells 9)) wr)) (fun _ ct _ => 4 - (RowKit.intOf ct).toNat)
    case atStart => exact ⟨0, by omega, rfl, rfl, hid (fun j hj => absurd hj (by omega)), hid (Only.refl _ _)⟩
    case round =>
      obtain ⟨k, hk, rfl, rfl, HD, HW⟩ := hrel
      by_cases hlt : k < 4
      · have c0 := ((HOb.out.only HW.out (by simp)).cell k).trans (HCell.out k (by omega))
        have hlt2 : (k : Int) < L.length := by omega
        have hlt3 : k < L.length := by omega
        have hnb := num_bd (pt L k)
        have hpb := pf_bd L k
        have hp : (256 : Int) ^ k ≤ 16777216 := by
          rcases (show k = 0 ∨ k = 1 ∨ k = 2 ∨ k = 3 by omega) with rfl | rfl | rfl | rfl <;> decide
        have HPF : Hid (pf L (k + 1) = pf L k * 256 + num (pt L k)) := hid rfl
        have hor : bits .or .u32 (pf L k * 256) (num (pt L k)) = pf L k * 256 + num (pt L k) := u32_or_mul _ _ 8 256 rfl (by omega) (by omega) (by omega) (by omega)
        have hfit : 0 ≤ pf L k ∧ pf L k ≤ 16777215 := by omega
        have HNu := hid (number1 · (pt L k))
        have HOK : Hid (∀ b, okN (pt L k) = b → b = true → ∀ j, j < k + 1 → okN (pt L j) = true) := hid (fun b h1 h2 j hj => by
          rcases Nat.lt_or_ge j k with h5 | h5
          · exact HD.out j h5
          · obtain rfl : j = k := by omega
            rw [h1, h2])
        have HNB : Hid (okN (pt L k) = false → prsA L = 0 ∧ prsE L = 3) := hid (fun h => HBad.out (fun h2 => by rw [h2.2 k hlt] at h; cases h))
        generalize num (pt L k) = nn at *
        generalize pf L k = a at *
        go_wp2_with fail
        refine (HNu.out _).mono ?_
        rintro x w2 ⟨rfl, rfl⟩
        generalize okN (pt L k) = b at *
        cases b with
        | true =>
          clear c0
          go_wp2
          go_roundw
          case rel => exact ⟨k + 1, by omega, by go_num, by rw [HPF.out], hid (HOK.out true rfl rfl), HW⟩
          case measure => simp [RowKit.intOf]; omega
        | false =>
          clear c0
          have hno := hid (HNB.out rfl)
          go_wp2
          go_ret2
          exact ⟨by rw [hno.out.1, hno.out.2]; rfl, HQ.out.trans HW.out⟩
      · obtain rfl : k = 4 := by omega
        have hlt2 : ¬ (4 : Int) < L.length := by omega
        have hyes := hid (HGood.out ⟨h4, HD.out⟩)
        go_wp2
        go_ret2
        exact ⟨by rw [hyes.out.1, hyes.out.2]; rfl, HQ.out.trans HW.out⟩
  · have d4 : ((L.length : Int) != 4) = true := by simp; omega
    have hno := hid (HBad.out (fun h => h4 h.1))
    go_enter Tryd.func24, Tryd.ntmps24
    go_wp2_with fail
    refine HSP.out.mono ?_
    rintro x w1 ⟨rfl, rfl⟩
    go_wp2
    go_ret2
    exact ⟨by rw [hno.out.1, hno.out.2]; rfl, HQ.out⟩
theorem strElem : ElemS Tryd.prog 60 9 (.string ⟨#[]⟩) 1 16 := ⟨Tryd.underlying60, by kernel_rfl, rfl, by omega⟩
theorem only_grow (w : World) (k : Nat) (os : Array Obj) : Only [] w (Go.Sort.grow (w.drewN k) os) :=
  ⟨rfl, rfl, rfl, by simp [Go.Sort.grow], fun i hi _ => by
    show (w.heap ++ os)[i]? = w.heap[i]?
    rw [Array.getElem?_append_left hi]⟩
theorem tab_only {w w' : World} (h : Lib.TabIs Tryd.prog w "internal/strconv.uint64pow10" .u64 Lib.pow10Tab) (o : Only [] w w') : Lib.TabIs Tryd.prog w' "internal/strconv.uint64pow10" .u64 Lib.pow10Tab := by
  have hg : Tryd.prog.globalNamed "internal/strconv.uint64pow10" = some 0 := by kernel_rfl
  unfold Lib.TabIs World.var? at h ⊢
  rw [hg] at h ⊢
  simp only [Option.bind_some] at h ⊢
  have hlt : 0 < w.heap.size := by
    rcases Nat.lt_or_ge 0 w.heap.size with h1 | h1
    · exact h1
    · rw [Array.getElem?_eq_none h1] at h; cases h
  rw [o.block _ hlt (by simp)]
  exact h
/-- A number's digits as text. -/
def ia (n : Int) : ByteArray := ⟨(Lib.itoa n).toArray⟩
def quad (a : Int) : List ByteArray := [ia (a / 16777216 % 256), ia (a / 65536 % 256), ia (a / 256 % 256), ia (a % 256)]
def txt (a : Int) : ByteArray := ⟨(Lib.join ((quad a).map (·.data.toList)) (ByteArray.mk #[46]).data.toList).toArray⟩
theorem u32_and255 (n : Int) (h : 0 ≤ n) (h' : n ≤ 4294967295) : bits .and .u32 n 255 = n % 256 := by
  obtain ⟨m, rfl⟩ := Int.eq_ofNat_of_zero_le h
  have h2 := u32_and_nat m 255 (by omega) (by omega)
  rw [show ((255 : Nat) : Int) = 255 from rfl] at h2
  rw [h2, show (255 : Nat) = 2 ^ 8 - 1 from rfl, Nat.and_two_pow_sub_one_eq_mod]
  simp
theorem dd3 (m : Nat) (h : m < 1000) : (Lib.decDigits m).length ≤ 3 := by
  rw [Lib.decDigits]
  split
  · simp
  · rw [List.length_append, Lib.decDigits]
    split
    · simp
    · rw [List.length_append, Lib.decDigits]
      split
      · simp
      · omega
theorem ia3 (n : Int) (h : 0 ≤ n) (h' : n ≤ 255) : (Lib.itoa n).length ≤ 3 := by
  unfold Lib.itoa
  rw [if_neg (by omega)]
  exact dd3 _ (by omega)
set_option maxRecDepth 100000 in
set_option maxHeartbeats 4000000 in
theorem text1 (w : World) (a : Int) (h0 : 0 ≤ a) (h1 : a ≤ 4294967295) (ht : Lib.TabIs Tryd.prog w "internal/strconv.uint64pow10" .u64 Lib.pow10Tab) : Calls Tryd.prog 23 #[.int .u32 a] w fun x w' => x = .returned (.string (txt a)) ∧ Only [] w w' := by
  have HT := hid ht; clear ht
  go_enter Tryd.func23, Tryd.ntmps23
  go_wp2
  go_loopw [3, 4] (fun v sh wr => ∃ k : Nat, k ≤ 4 ∧ sh = .int .i64 (24 - 8 * (k : Int)) ∧ Hid (wr.ownsRow w.heap.size 9 1 v k (((quad a).take k).map Value.string)) ∧ Hid (Only [] w wr)) (fun _ sh _ => (RowKit.intOf sh + 8).toNat)
  case atStart => exact ⟨0, by omega, rfl, hid (World.ownsRow_nil _ _ _ _), hid (Only.refl _ _)⟩
  case round =>
    obtain ⟨k, hk, rfl, HV, HQ⟩ := hrel
    rcases (show k = 0 ∨ k = 1 ∨ k = 2 ∨ k = 3 ∨ k = 4 by omega) with rfl | rfl | rfl | rfl | rfl
    · skip
      have hb : wrap64 (bits BinOp.and IntKind.u32 (a / 16777216) 255) = (a / 16777216) % 256 := by rw [u32_and255 _ (by omega) (by omega)]; unfold wrap64; omega
      have HBI := hid hb; clear hb
      go_wp2_with fail
      rw [HBI.out]
      refine (shItoa ((a / 16777216) % 256) (by omega) (by omega) wr (tab_only HT.out HQ.out)).mono ?_
      rintro x u ⟨rfl, q, os, hu⟩
      have o1 : Only [] wr u := by rw [hu]; exact only_grow _ _ _
      have HVu := hid (own_only_nil HV.out (o1.alloc (.cells #[.string (ia ((a / 16777216) % 256))] 9))); have HQ := hid (HQ.out.trans (o1.alloc (.cells #[.string (ia ((a / 16777216) % 256))] 9)))
      have HR : Hid (RdS (u.alloc (.cells #[.string (ia ((a / 16777216) % 256))] 9)) (some ⟨u.heap.size, 0, none⟩) 1 1 [.string (ia ((a / 16777216) % 256))]) := hid ⟨rfl, (by intro y hy; simp at hy; subst hy; rfl), fun _ => ⟨_, 0, rfl, by simp, fun j y hj => by
        rcases j with _ | j
        · simp at hj; subst hj; simp
        · simp at hj⟩⟩
      have HB : Hid (w.heap.size ≤ (u.alloc (.cells #[.string (ia ((a / 16777216) % 256))] 9)).heap.size) := hid HQ.out.size
      clear hu o1 HBI
      go_wp2_with (at_builtin; refine wpList_appS _ rfl (.tmp 9) (.tmp 16) _ rfl strElem w.heap.size _ 0 _ rfl HVu.out (some ⟨u.heap.size, 0, none⟩) 1 1 _ rfl HR.out (by simp) (.inr ⟨_, _, rfl⟩) (by omega) (by unfold maxLen; omega) HB.out ?_)
      intro v2 w3 hv hg hb
      have HQ := hid (HQ.out.of_grown hg (fun k hk => .inr (own_lt HVu.out k hk).1))
      have HV2 : Hid (w3.ownsRow w.heap.size 9 1 v2 1 (((quad a).take 1).map Value.string)) := hid (by simpa [quad] using hv)
      clear hv hg hb HR HB HVu
      go_wp2
      go_roundw
      case rel => exact ⟨1, by omega, by go_num, HV2, HQ⟩
      case measure => simp [RowKit.intOf]
    · skip
      have hb : wrap64 (bits BinOp.and IntKind.u32 (a / 65536) 255) = (a / 65536) % 256 := by rw [u32_and255 _ (by omega) (by omega)]; unfold wrap64; omega
      have HBI := hid hb; clear hb
      go_wp2_with fail
      rw [HBI.out]
      refine (shItoa ((a / 65536) % 256) (by omega) (by omega) wr (tab_only HT.out HQ.out)).mono ?_
      rintro x u ⟨rfl, q, os, hu⟩
      have o1 : Only [] wr u := by rw [hu]; exact only_grow _ _ _
      have HVu := hid (own_only_nil HV.out (o1.alloc (.cells #[.string (ia ((a / 65536) % 256))] 9))); have HQ := hid (HQ.out.trans (o1.alloc (.cells #[.string (ia ((a / 65536) % 256))] 9)))
      have HR : Hid (RdS (u.alloc (.cells #[.string (ia ((a / 65536) % 256))] 9)) (some ⟨u.heap.size, 0, none⟩) 1 1 [.string (ia ((a / 65536) % 256))]) := hid ⟨rfl, (by intro y hy; simp at hy; subst hy; rfl), fun _ => ⟨_, 0, rfl, by simp, fun j y hj => by
        rcases j with _ | j
        · simp at hj; subst hj; simp
        · simp at hj⟩⟩
      have HB : Hid (w.heap.size ≤ (u.alloc (.cells #[.string (ia ((a / 65536) % 256))] 9)).heap.size) := hid HQ.out.size
      clear hu o1 HBI
      go_wp2_with (at_builtin; refine wpList_appS _ rfl (.tmp 9) (.tmp 16) _ rfl strElem w.heap.size _ 1 _ rfl HVu.out (some ⟨u.heap.size, 0, none⟩) 1 1 _ rfl HR.out (by simp) (.inr ⟨_, _, rfl⟩) (by omega) (by unfold maxLen; omega) HB.out ?_)
      intro v2 w3 hv hg hb
      have HQ := hid (HQ.out.of_grown hg (fun k hk => .inr (own_lt HVu.out k hk).1))
      have HV2 : Hid (w3.ownsRow w.heap.size 9 1 v2 2 (((quad a).take 2).map Value.string)) := hid (by simpa [quad] using hv)
      clear hv hg hb HR HB HVu
      go_wp2
      go_roundw
      case rel => exact ⟨2, by omega, by go_num, HV2, HQ⟩
      case measure => simp [RowKit.intOf]
    · skip
      have hb : wrap64 (bits BinOp.and IntKind.u32 (a / 256) 255) = (a / 256) % 256 := by rw [u32_and255 _ (by omega) (by omega)]; unfold wrap64; omega
      have HBI := hid hb; clear hb
      go_wp2_with fail
      rw [HBI.out]
      refine (shItoa ((a / 256) % 256) (by omega) (by omega) wr (tab_only HT.out HQ.out)).mono ?_
      rintro x u ⟨rfl, q, os, hu⟩
      have o1 : Only [] wr u := by rw [hu]; exact only_grow _ _ _
      have HVu := hid (own_only_nil HV.out (o1.alloc (.cells #[.string (ia ((a / 256) % 256))] 9))); have HQ := hid (HQ.out.trans (o1.alloc (.cells #[.string (ia ((a / 256) % 256))] 9)))
      have HR : Hid (RdS (u.alloc (.cells #[.string (ia ((a / 256) % 256))] 9)) (some ⟨u.heap.size, 0, none⟩) 1 1 [.string (ia ((a / 256) % 256))]) := hid ⟨rfl, (by intro y hy; simp at hy; subst hy; rfl), fun _ => ⟨_, 0, rfl, by simp, fun j y hj => by
        rcases j with _ | j
        · simp at hj; subst hj; simp
        · simp at hj⟩⟩
      have HB : Hid (w.heap.size ≤ (u.alloc (.cells #[.string (ia ((a / 256) % 256))] 9)).heap.size) := hid HQ.out.size
      clear hu o1 HBI
      go_wp2_with (at_builtin; refine wpList_appS _ rfl (.tmp 9) (.tmp 16) _ rfl strElem w.heap.size _ 2 _ rfl HVu.out (some ⟨u.heap.size, 0, none⟩) 1 1 _ rfl HR.out (by simp) (.inr ⟨_, _, rfl⟩) (by omega) (by unfold maxLen; omega) HB.out ?_)
      intro v2 w3 hv hg hb
      have HQ := hid (HQ.out.of_grown hg (fun k hk => .inr (own_lt HVu.out k hk).1))
      have HV2 : Hid (w3.ownsRow w.heap.size 9 1 v2 3 (((quad a).take 3).map Value.string)) := hid (by simpa [quad] using hv)
      clear hv hg hb HR HB HVu
      go_wp2
      go_roundw
      case rel => exact ⟨3, by omega, by go_num, HV2, HQ⟩
      case measure => simp [RowKit.intOf]
    · skip
      have hb : wrap64 (bits BinOp.and IntKind.u32 a 255) = a % 256 := by rw [u32_and255 _ (by omega) (by omega)]; unfold wrap64; omega
      have HBI := hid hb; clear hb
      go_wp2_with fail
      rw [HBI.out]
      refine (shItoa (a % 256) (by omega) (by omega) wr (tab_only HT.out HQ.out)).mono ?_
      rintro x u ⟨rfl, q, os, hu⟩
      have o1 : Only [] wr u := by rw [hu]; exact only_grow _ _ _
      have HVu := hid (own_only_nil HV.out (o1.alloc (.cells #[.string (ia (a % 256))] 9))); have HQ := hid (HQ.out.trans (o1.alloc (.cells #[.string (ia (a % 256))] 9)))
      have HR : Hid (RdS (u.alloc (.cells #[.string (ia (a % 256))] 9)) (some ⟨u.heap.size, 0, none⟩) 1 1 [.string (ia (a % 256))]) := hid ⟨rfl, (by intro y hy; simp at hy; subst hy; rfl), fun _ => ⟨_, 0, rfl, by simp, fun j y hj => by
        rcases j with _ | j
        · simp at hj; subst hj; simp
        · simp at hj⟩⟩
      have HB : Hid (w.heap.size ≤ (u.alloc (.cells #[.string (ia (a % 256))] 9)).heap.size) := hid HQ.out.size
      clear hu o1 HBI
      go_wp2_with (at_builtin; refine wpList_appS _ rfl (.tmp 9) (.tmp 16) _ rfl strElem w.heap.size _ 3 _ rfl HVu.out (some ⟨u.heap.size, 0, none⟩) 1 1 _ rfl HR.out (by simp) (.inr ⟨_, _, rfl⟩) (by omega) (by unfold maxLen; omega) HB.out ?_)
      intro v2 w3 hv hg hb
      have HQ := hid (HQ.out.of_grown hg (fun k hk => .inr (own_lt HVu.out k hk).1))
      have HV2 : Hid (w3.ownsRow w.heap.size 9 1 v2 4 (((quad a).take 4).map Value.string)) := hid (by simpa [quad] using hv)
      clear hv hg hb HR HB HVu
      go_wp2
      go_roundw
      case rel => exact ⟨4, by omega, by go_num, HV2, HQ⟩
      case measure => simp [RowKit.intOf]
    · obtain ⟨A, c, ev, hnc, hcm, hA0, HR, hbk, hsh⟩ := RdS.of_own HV.out (by intro y hy; simp [quad] at hy; rcases hy with rfl | rfl | rfl | rfl <;> rfl)
      rcases hsh with rfl | ⟨b, rfl⟩
      · exfalso; have := hA0 rfl; omega
      · subst ev
        obtain ⟨b', off', e', hblt, hcl⟩ := HR.cells (by omega)
        injection e' with e'; injection e' with e1 e2
        subst e1 e2
        have HJ := shJoin b 0 c (quad a) (ByteArray.mk #[46]) wr (fun j x hx => by
          have h9 := hcl j (.string x) (by rw [List.take_of_length_le (by simp [quad]), List.getElem?_map, hx]; rfl)
          exact h9) hblt (by simp [quad]) (by simp [quad]; omega) (by
          have e1 := ia3 (a / 16777216 % 256) (by omega) (by omega)
          have e2 := ia3 (a / 65536 % 256) (by omega) (by omega)
          have e3 := ia3 (a / 256 % 256) (by omega) (by omega)
          have e4 := ia3 (a % 256) (by omega) (by omega)
          simp [quad, ia, Lib.join, List.intercalate]
          omega)
        have HJ := hid HJ
        have HLq : Hid ((quad a).length = 4) := hid rfl
        clear HR hcl hbk hA0 hnc hcm
        go_wp2_with fail
        refine HJ.out.mono ?_
        rintro x w2 ⟨rfl, b2⟩
        have HQ2 := hid (HQ.out.trans (Only.of_below b2))
        clear b2
        go_wp2
        go_ret
        exact ⟨rfl, HQ2.out⟩
end Go.Proofs.YtaoeflngdlgboaaDoor.ip
