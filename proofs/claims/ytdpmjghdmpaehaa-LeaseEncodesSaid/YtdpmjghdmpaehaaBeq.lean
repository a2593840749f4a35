/-
  bytes.Equal says whether two rows of bytes are the same, by a walk of its text. Conditions: those typed.
-/
import Derived.Test.YtdpmjghdmpaehaaOwn
import Derived.Test.YtdpmjghdmpaehaaProg
import Derived.Deep.QuietTactic
import Derived.BigQuiet
namespace Go.Proofs.Ytdpmjghdmpaehaa.beq
set_option linter.unusedVariables false
set_option linter.unusedSimpArgs false
open Go.ChangeShapes Go.WideShapes Go.ChangeAt Go.RowKit Go.IntWalk Go.Lib
/-- Bytes as a text. -/
def bstr (l : List Int) : ByteArray := ⟨(l.map fun z => UInt8.ofNat z.toNat).toArray⟩
theorem bstr_inj {x y : List Int} (hx : ∀ z ∈ x, 0 ≤ z ∧ z ≤ 255) (hy : ∀ z ∈ y, 0 ≤ z ∧ z ≤ 255) (h : bstr x = bstr y) : x = y := by
  unfold bstr at h
  injection h with h
  have h := congrArg Array.toList h
  simp only at h
  apply List.ext_getElem?
  intro i
  have h2 := congrArg (fun l => l[i]?) h
  simp only [List.getElem?_map] at h2
  cases hxi : x[i]? with
  | none =>
    rw [hxi] at h2
    cases hyi : y[i]? with
    | none => rfl
    | some b => rw [hyi] at h2; cases h2
  | some a =>
    rw [hxi] at h2
    cases hyi : y[i]? with
    | none => rw [hyi] at h2; cases h2
    | some b =>
      rw [hyi] at h2
      simp only [Option.map_some, Option.some.injEq] at h2
      have ha := hx a (List.mem_of_getElem? hxi)
      have hb := hy b (List.mem_of_getElem? hyi)
      have h3 := congrArg UInt8.toNat h2
      simp only [UInt8.toNat_ofNat'] at h3
      have : a = b := by omega
      rw [this]
theorem bbeq (a b : ByteArray) : (a.toList == b.toList) = decide (a = b) := by
  rw [ByteArray.toList_eq, ByteArray.toList_eq]
  by_cases h : a = b
  · subst h; simp
  · rw [decide_eq_false h, beq_eq_false_iff_ne]
    exact fun h2 => h (bytes_inj h2)
theorem fold_push' : ∀ (l : List Int) (s : ByteArray), l.foldl (fun r n => r.push (UInt8.ofNat n.toNat)) s = ⟨s.data ++ (l.map fun z => UInt8.ofNat z.toNat).toArray⟩
  | [], s => by simp
  | b :: l, s => by
    rw [List.foldl_cons, fold_push' l]
    simp [ByteArray.push]
theorem conv_bytes {P : Program} {s d e : TypeId} (hs : P.underlying s = some (.slice e)) (hd : P.underlying d = some .string) (he : P.underlying e = some (.int .u8)) {w : World} {A : Option Addr} {n c : Nat} {x : List Int} (hx : Rd .u8 w A n x) : (Go.convert s d (.slice A n c)).run P w = .ok (.string (bstr x)) w := by
  have hfin : ByteArray.mk (ByteArray.empty.data ++ (x.map fun z => UInt8.ofNat z.toNat).toArray) = bstr x := by
    have : ByteArray.empty.data = #[] := rfl
    rw [this]; simp [bstr]
  have hr : (Conv.bytesToString (.slice A n c)).run P w = .ok (.string (bstr x)) w := by
    cases A with
    | none =>
      have h0 : n = 0 := by
        rcases Nat.eq_zero_or_pos n with h | h
        · exact h
        · obtain ⟨b, off, e1, _⟩ := hx.cells h
          cases e1
      subst h0
      have hx0 : x = [] := List.eq_nil_of_length_eq_zero hx.len
      subst hx0
      simp [Conv.bytesToString, bstr]
      rfl
    | some a =>
      have hl : (loadCells a n).run P w = .ok (x.map (Value.int .u8)).toArray w := by
        have hlen : (x.map (Value.int .u8)).length = n := by rw [List.length_map, hx.len]
        have := run_loadCells_list (P := P) w a (x.map (Value.int .u8)) (fun j v hv => by
          have hj : j < n := by
            have := (List.getElem?_eq_some_iff.1 hv).1
            simpa [hx.len] using this
          obtain ⟨b, off, e1, hc⟩ := hx.cells (by omega)
          cases e1
          rw [addr_plus, hc j hj]
          have hjx : j < x.length := by rw [hx.len]; exact hj
          rw [List.getElem?_map, List.getElem?_eq_getElem hjx] at hv
          rw [List.getD_eq_getElem?_getD, List.getElem?_eq_getElem hjx]
          exact hv)
        rwa [hlen] at this
      have hr := run_bytesToString (P := P) w a n c x hl
      rw [fold_push', hfin] at hr
      exact hr
  simp only [Go.convert, Sem.run_bind, run_underlying hs, run_underlying hd, run_underlying he, Result.andThen_ok, hr]
set_option maxHeartbeats 1000000 in
set_option maxRecDepth 100000 in
theorem bytesEqual (w : World) (A B : Option Addr) (n m c d : Nat) (x y : List Int) (hx : Rd .u8 w A n x) (hy : Rd .u8 w B m y) (hbx : ∀ z ∈ x, 0 ≤ z ∧ z ≤ 255) (hby : ∀ z ∈ y, 0 ≤ z ∧ z ≤ 255) :
    Calls Try.prog 38 #[.slice A n c, .slice B m d] w fun e w' => e = .returned (.bool (decide (x = y))) ∧ ∃ q, w' = w.drewN q := by
  have hd : decide (x = y) = ((bstr x).toList == (bstr y).toList) := by
    by_cases h : x = y
    · subst h
      rw [bbeq, decide_eq_true rfl, decide_eq_true rfl]
    · rw [bbeq, decide_eq_false h, decide_eq_false fun h2 => h (bstr_inj hbx hby h2)]
  rw [hd]
  have c1 : ∀ q : Nat, (Go.convert 28 9 (.slice A n c)).run Try.prog (w.drewN q) = .ok (.string (bstr x)) (w.drewN q) := fun q => conv_bytes (e := 5) Try.underlying28 Try.underlying9 Try.underlying5 (hx.drewN q)
  have c2 : ∀ q : Nat, (Go.convert 28 9 (.slice B m d)).run Try.prog (w.drewN q) = .ok (.string (bstr y)) (w.drewN q) := fun q => conv_bytes (e := 5) Try.underlying28 Try.underlying9 Try.underlying5 (hy.drewN q)
  generalize bstr x = X at *
  generalize bstr y = Y at *
  go_enter Try.func38, Try.ntmps38
  have d1 := c1 0
  have d2 := c2 0
  have ew : w.drewN 0 = w := rfl
  rw [ew] at d1 d2
  go_wp2
  go_ret
  exact ⟨rfl, 0, rfl⟩
end Go.Proofs.Ytdpmjghdmpaehaa.beq
