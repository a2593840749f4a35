/-
  cmp.Compare of two numbers, and slices.BinarySearchFunc over a row of structs that rises, by a walk of each text (igmp). Conditions: none but those typed.
-/
import Derived.Test.YtodcjokafjdhdaaRws
import Derived.Deep.LoopGhost
namespace Go.Proofs.Ytodcjokafjdhdaa.igm
set_option linter.unusedVariables false
set_option linter.unusedSimpArgs false
open Go.ChangeShapes Go.WideShapes Go.ChangeAt Go.RowKit Go.IntWalk Go.Lib
def cmpZ (a b : Int) : Int := if a < b then -1 else if b < a then 1 else 0
theorem nan0 (w : World) (a : Int) : Calls Try.prog 66 #[.int .u32 a] w fun x w' => x = .returned (.bool false) ∧ w = w' := by
  go_enter Try.func66, Try.ntmps66
  go_wp2
  go_ret
  exact ⟨by simp, rfl⟩
theorem cmp1 (w : World) (a b : Int) : Calls Try.prog 59 #[.int .u32 a, .int .u32 b] w fun x w' => x = .returned (.int .i64 (cmpZ a b)) ∧ w = w' := by
  by_cases h1 : a < b
  · have HE : Hid (cmpZ a b = -1) := hid (by unfold cmpZ; rw [if_pos h1])
    go_enter Try.func59, Try.ntmps59
    go_wp2_with fail
    refine (nan0 w a).mono ?_
    rintro x w' ⟨rfl, rfl⟩
    go_wp2_with fail
    refine (nan0 w b).mono ?_
    rintro x w' ⟨rfl, rfl⟩
    go_wp2
    go_ret
    exact ⟨by rw [HE.out]; rfl, rfl⟩
  · by_cases h2 : b < a
    · have HE : Hid (cmpZ a b = 1) := hid (by unfold cmpZ; rw [if_neg h1, if_pos h2])
      go_enter Try.func59, Try.ntmps59
      go_wp2_with fail
      refine (nan0 w a).mono ?_
      rintro x w' ⟨rfl, rfl⟩
      go_wp2_with fail
      refine (nan0 w b).mono ?_
      rintro x w' ⟨rfl, rfl⟩
      go_wp2
      go_ret
      exact ⟨by rw [HE.out]; rfl, rfl⟩
    · have HE : Hid (cmpZ a b = 0) := hid (by unfold cmpZ; rw [if_neg h1, if_neg h2])
      go_enter Try.func59, Try.ntmps59
      go_wp2_with fail
      refine (nan0 w a).mono ?_
      rintro x w' ⟨rfl, rfl⟩
      go_wp2_with fail
      refine (nan0 w b).mono ?_
      rintro x w' ⟨rfl, rfl⟩
      go_wp2
      go_ret
      exact ⟨by rw [HE.out]; rfl, rfl⟩
structure Mb where
  g : Int
  p : Option Nat
  o : Bool
def Mb.enc (a : Mb) : List Value := [.int .u32 a.g, .pointer (a.p.map fun b => ⟨b, 0, none⟩), .bool a.o]
theorem enc_len (a : Mb) : (Mb.enc a).length = 3 := rfl
theorem enc_one (a : Mb) : ∀ u ∈ Mb.enc a, u.oneCell' = true := fun u hu => by
  simp only [Mb.enc, List.mem_cons, List.not_mem_nil, or_false] at hu
  rcases hu with rfl | rfl | rfl <;> rfl
theorem elemS : ElemS Try.prog 44 77 (.agg #[.int .u32 0, .pointer none, .bool false]) 3 24 := ⟨Try.underlying44, by kernel_rfl, by kernel_rfl, by decide⟩
theorem clo1 (w : World) (a : Mb) (t : Int) : Calls Try.prog 58 #[.agg #[.int .u32 a.g, .pointer (a.p.map fun b => ⟨b, 0, none⟩), .bool a.o], .int .u32 t] w fun x w' => x = .returned (.int .i64 (cmpZ a.g t)) ∧ Only [] w w' := by
  have Q0 : Hid (Only [] w (w.alloc (.cells #[.int .u32 a.g, .pointer (a.p.map fun b => ⟨b, 0, none⟩), .bool a.o] 77))) := hid ((Only.refl [] w).alloc _)
  go_enter Try.func58, Try.ntmps58
  go_wp2_with fail
  refine (cmp1 _ a.g t).mono ?_
  rintro x w' ⟨rfl, hw⟩
  subst hw
  go_wp2_with fail
  go_ret
  exact ⟨rfl, Q0.out⟩
/-- How many stand ahead of a key. -/
def spot (L : List Mb) (t : Int) : Nat := L.countP fun a => decide (a.g < t)
/-- The keys rise. -/
def Rise (L : List Mb) : Prop := L.Pairwise fun a b => a.g < b.g
theorem Rise.lt {L : List Mb} (h : Rise L) {i j : Nat} (hj : j < L.length) (hij : i < j) : (L[i]'(by omega)).g < (L[j]'hj).g := List.pairwise_iff_getElem.1 h i j (by omega) hj hij
theorem spot_eq (L : List Mb) (t : Int) : ∀ (i : Nat), i ≤ L.length → (∀ k (hk : k < L.length), k < i → (L[k]'hk).g < t) → (∀ k (hk : k < L.length), i ≤ k → t ≤ (L[k]'hk).g) → spot L t = i := by
  unfold spot
  induction L with
  | nil => intro i hi _ _; simp at hi; simp [hi]
  | cons a r ih =>
    intro i hi h1 h2
    cases i with
    | zero =>
      rw [List.countP_eq_zero]
      intro x hx
      obtain ⟨k, hk, rfl⟩ := List.getElem_of_mem hx
      simpa using h2 k hk (Nat.zero_le _)
    | succ i =>
      have ha : a.g < t := h1 0 (by simp) (by omega)
      rw [List.countP_cons_of_pos (by simpa using ha)]
      rw [ih i (by simpa using hi) (fun k hk hki => h1 (k + 1) (by simpa using hk) (by omega)) (fun k hk hki => h2 (k + 1) (by simpa using hk) (by omega))]
/-- Is the key there? -/
def has (L : List Mb) (t : Int) : Bool := match L[spot L t]? with
  | some a => decide (a.g = t)
  | none => false
def BsE (L : List Mb) (t : Int) (w : World) (x : Ending) (w' : World) : Prop := x = .returned (.tuple #[.int .i64 (spot L t : Nat), .bool (has L t)]) ∧ Only [] w w'
set_option maxRecDepth 100000 in
set_option maxHeartbeats 8000000 in
theorem bsf1 (w : World) (A : Option Addr) (L : List Mb) (n c : Nat) (t : Int) (hr : RdS w A n 3 (rws Mb.enc L)) (hn : L.length = n) (hL : Rise L) (hb : n ≤ 4611686018427387903) :
    Calls Try.prog 57 #[.slice A n c, .int .u32 t, .func (.func 58) #[] #[]] w (BsE L t w) := by
  have HR := hid hr; have HN := hid hn; have HL := hid hL
  clear hr hn hL
  go_enter Try.func57, Try.ntmps57
  go_wp2_with fail
  go_loopw [9, 10, 11] (fun i j _ wr => ∃ (lo hi : Nat), i = .int .i64 lo ∧ j = .int .i64 hi ∧ lo ≤ hi ∧ hi ≤ n ∧ Hid ((∀ k (hk : k < L.length), k < lo → (L[k]'hk).g < t) ∧ (∀ k (hk : k < L.length), hi ≤ k → t ≤ (L[k]'hk).g)) ∧ Hid (Only [] w wr)) (fun i j _ _ => (RowKit.intOf j).toNat - (RowKit.intOf i).toNat)
  case atStart => exact ⟨0, n, rfl, rfl, by omega, Nat.le_refl _, hid ⟨fun k hk h => absurd h (by omega), fun k hk h => absurd hk (by have := HN.out; omega)⟩, hid (Only.refl _ _)⟩
  case round =>
    obtain ⟨lo, hi, rfl, rfl, hlh, hhn, HI, HQ⟩ := hrel
    by_cases hlt : lo < hi
    · obtain ⟨mid, hmid⟩ : ∃ mid, (lo + hi) / 2 = mid := ⟨_, rfl⟩
      have hm1 : lo ≤ mid := by omega
      have hm2 : mid < hi := by omega
      have hmz : ((lo : Int) + (hi : Int)) / 2 = (mid : Int) := by omega
      have hml : mid < L.length := by have := HN.out; omega
      obtain ⟨b, off, rfl, hb9, hcell⟩ := (RdS.only_nil HR.out HQ.out).elem HN.out enc_len (by omega) mid hml
      have HMa := hid (show L[mid]'hml = L[mid]'hml from rfl)
      obtain ⟨a, ha⟩ : ∃ a, L[mid]'hml = a := ⟨_, rfl⟩
      rw [ha] at hcell
      have HA := hid ha
      have d0 : wr.cell? ⟨b, off + mid * 3, none⟩ = some (.int .u32 a.g) := by have h9 := hcell 0 _ rfl; rwa [Nat.add_zero] at h9
      have d1 : wr.cell? ⟨b, off + mid * 3 + 1, none⟩ = some (.pointer (a.p.map fun b => ⟨b, 0, none⟩)) := hcell 1 _ rfl
      have d2 : wr.cell? ⟨b, off + mid * 3 + 2, none⟩ = some (.bool a.o) := hcell 2 _ rfl
      clear hcell HMa ha hmid
      go_wp2_with fail
      refine (clo1 wr a t).mono ?_
      rintro x w2 ⟨rfl, o2⟩
      have HQ2 := hid (HQ.out.trans o2)
      clear o2 d0 d1 d2
      by_cases hk : a.g < t
      · have hc : cmpZ a.g t = -1 := by unfold cmpZ; rw [if_pos hk]
        rw [hc]
        have HI2 : Hid ((∀ k (hk : k < L.length), k < mid + 1 → (L[k]'hk).g < t) ∧ (∀ k (hk : k < L.length), hi ≤ k → t ≤ (L[k]'hk).g)) := hid ⟨fun k hkl hk2 => by
          rcases Nat.lt_or_ge k mid with h3 | h3
          · have h4 := HL.out.lt hml h3; rw [HA.out] at h4; omega
          · have h5 : k = mid := by omega
            subst h5; rw [HA.out]; exact hk, HI.out.2⟩
        clear hc hk
        go_wp2_with fail
        go_roundw
        case rel => exact ⟨mid + 1, hi, by first | rfl | go_num, rfl, by omega, hhn, HI2, HQ2⟩
        case measure => simp [RowKit.intOf]; omega
      · have hc : (cmpZ a.g t < 0) = False := by
          apply eq_false
          unfold cmpZ; rw [if_neg hk]; split <;> omega
        have HI2 : Hid ((∀ k (hk : k < L.length), k < lo → (L[k]'hk).g < t) ∧ (∀ k (hk : k < L.length), mid ≤ k → t ≤ (L[k]'hk).g)) := hid ⟨HI.out.1, fun k hkl hk2 => by
          rcases Nat.lt_or_ge mid k with h3 | h3
          · have h4 := HL.out.lt hkl h3; rw [HA.out] at h4; omega
          · have h5 : k = mid := by omega
            subst h5; rw [HA.out]; omega⟩
        generalize cmpZ a.g t = z at *
        have hz : ¬ z < 0 := by simpa using hc
        clear hc hk
        go_wp2_with fail
        go_roundw
        case rel => exact ⟨lo, mid, rfl, by first | rfl | go_num, by omega, by omega, HI2, HQ2⟩
        case measure => simp [RowKit.intOf]; omega
    · have hle : lo = hi := by omega
      subst hle
      have HS : Hid (spot L t = lo) := hid (spot_eq L t lo (by have := HN.out; omega) HI.out.1 HI.out.2)
      by_cases hin : lo < n
      · have hml : lo < L.length := by have := HN.out; omega
        obtain ⟨b, off, rfl, hb9, hcell⟩ := (RdS.only_nil HR.out HQ.out).elem HN.out enc_len (by omega) lo hml
        obtain ⟨a, ha⟩ : ∃ a, L[lo]'hml = a := ⟨_, rfl⟩
        rw [ha] at hcell
        have HH : Hid (has L t = decide (a.g = t)) := hid (by unfold has; rw [HS.out, List.getElem?_eq_getElem hml, ha])
        have hnl : t ≤ a.g := by rw [← ha]; exact HI.out.2 lo hml (Nat.le_refl _)
        have d0 : wr.cell? ⟨b, off + lo * 3, none⟩ = some (.int .u32 a.g) := by have h9 := hcell 0 _ rfl; rwa [Nat.add_zero] at h9
        have d1 : wr.cell? ⟨b, off + lo * 3 + 1, none⟩ = some (.pointer (a.p.map fun b => ⟨b, 0, none⟩)) := hcell 1 _ rfl
        have d2 : wr.cell? ⟨b, off + lo * 3 + 2, none⟩ = some (.bool a.o) := hcell 2 _ rfl
        clear hcell ha
        go_wp2_with fail
        refine (clo1 wr a t).mono ?_
        rintro x w2 ⟨rfl, o2⟩
        have HQ2 := hid (HQ.out.trans o2)
        clear o2 d0 d1 d2
        have hz : (cmpZ a.g t == 0) = decide (a.g = t) := by
          unfold cmpZ; rw [if_neg (by omega)]
          by_cases h5 : t < a.g
          · rw [if_pos h5]; simp; omega
          · rw [if_neg h5]; simp; omega
        have HZ := hid hz
        generalize cmpZ a.g t = z at *
        clear hnl
        go_wp2_with fail
        go_ret2
        exact ⟨by rw [HS.out, HH.out]; first | rfl | simp [HZ.out], HQ2.out⟩
      · have HH : Hid (has L t = false) := hid (by unfold has; rw [HS.out, List.getElem?_eq_none (by have := HN.out; omega)])
        go_wp2_with fail
        go_ret2
        exact ⟨by rw [HS.out, HH.out]; first | rfl | simp, HQ.out⟩
end Go.Proofs.Ytodcjokafjdhdaa.igm
