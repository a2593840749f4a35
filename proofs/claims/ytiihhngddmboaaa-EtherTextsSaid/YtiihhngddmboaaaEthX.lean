/-
  Chapter 4 (ether): a strings.Builder that holds bytes, by a walk of each text; its String by the library's contract. Conditions: none but those typed.
-/
import Derived.Test.YtiihhngddmboaaaEthW
import Derived.Shelf.Strings.Builder1
namespace Go.Proofs.Ytiihhngddmboaaa.eth
set_option linter.unusedVariables false
set_option linter.unusedSimpArgs false
open Go.ChangeShapes Go.WideShapes Go.ChangeAt Go.RowKit Go.IntWalk Go.Lib
open Go.Shelf
def bldRen : Go.Shelf.Ren := ⟨fun | 169 => 34 | n => n, fun | 70 => 63 | 9 => 9 | 0 => 0 | 72 => 65 | 37 => 24 | 127 => 74 | 3 => 3 | 5 => 5 | n => n, fun | n => n⟩
theorem bldLays : Go.Proofs.Lays.n169 Try.prog bldRen := {
  mixed := by kernel_rfl
  f169 := Try.func34.trans (congrArg some (by kernel_rfl))
  t0 := Try.underlying0
  a0 := Try.isAgg0
  z0 := Try.sizeOf0
  v0 := Try.zeroValue0
  t3 := Try.underlying3
  a3 := Try.isAgg3
  z3 := Try.sizeOf3
  v3 := Try.zeroValue3
  t9 := Try.underlying9
  a9 := Try.isAgg9
  z9 := Try.sizeOf9
  v9 := Try.zeroValue9
  t37 := Try.underlying24
  a37 := Try.isAgg24
  z37 := Try.sizeOf24
  v37 := Try.zeroValue24
  t70 := Try.underlying63
  a70 := Try.isAgg63
  z70 := Try.sizeOf63
  v70 := Try.zeroValue63
  t72 := Try.underlying65
  a72 := Try.isAgg65
  z72 := Try.sizeOf65
  v72 := Try.zeroValue65
  t127 := Try.underlying74
  a127 := Try.isAgg74
  z127 := Try.sizeOf74
  v127 := Try.zeroValue74 }
theorem bldExtra : Builder.Extra Try.prog bldRen := {
  sizeBuilder := by kernel_rfl
  liesBuilder := by kernel_rfl
  t5 := Try.underlying5
  a5 := Try.isAgg5
  z5 := Try.sizeOf5
  v5 := Try.zeroValue5
  infoByte := by kernel_rfl
  cellsByte := by kernel_rfl
  sizeByte := by kernel_rfl
  neB5 := by decide }
theorem elemB : Elem Try.prog 24 5 .u8 1 := ⟨Try.underlying24, by kernel_rfl⟩
/-- The Builder in block b holds the bytes l; its row lies in blocks from base on. -/
def Bl (w : World) (b base : Nat) (l : List Int) : Prop := ∃ p v, (p = .pointer none ∨ p = .pointer (some ⟨b, 0, none⟩)) ∧ Ob w b 65 #[p, v] ∧ Own .u8 5 w base v l ∧ base ≤ b
theorem own_neB {w : World} {b base : Nat} {v : Value} {l : List Int} {cs : Array Value} (ho : Ob w b 65 cs) (h : Own .u8 5 w base v l) : v.ownBlock ≠ some b := by
  intro e
  rcases h.1.2 with ⟨hv, _⟩ | ⟨g', cap, cur, hv, _, hh, _⟩
  · rw [hv] at e; cases e
  · rw [hv] at e
    have : g' = b := by simpa [Value.ownBlock] using e
    subst this
    unfold Ob at ho
    rw [hh] at ho
    injection ho with h2; injection h2 with _ h3
    exact absurd h3 (by decide)
theorem shapeB {w : World} {b : Nat} {p v : Value} (h : Ob w b 65 #[p, v]) : w.shape? b = some (65, 2) := by
  unfold Ob at h
  simp [World.shape?, h]
set_option maxHeartbeats 1000000 in
theorem ccheck (w : World) (b : Nat) (p v : Value) (hp : p = .pointer none ∨ p = .pointer (some ⟨b, 0, none⟩)) (ho : Ob w b 65 #[p, v]) :
    Calls Try.prog 38 #[.pointer (some ⟨b, 0, none⟩)] w fun e w' => e = .returned (.tuple #[]) ∧ Ob w' b 65 #[.pointer (some ⟨b, 0, none⟩), v] ∧ Only [b] w w' := by
  have c0 := ho.cell 0
  have f0 := ho.frozen 0
  have hsh := shapeB ho
  obtain ⟨j, hj, hjs⟩ := Option.map_eq_some_iff.1 bldExtra.sizeBuilder
  have hj' : Try.prog.info? 65 = some j := hj
  have HO := hid ho; clear ho
  rcases hp with rfl | rfl
  · go_enter Try.func38, Try.ntmps38
    go_wp2
    rw [Lib.run_to_unsafe w ⟨b, 0, none⟩ Try.underlying63 Try.underlying75 hj' (by rw [hjs]; decide) hsh (Nat.zero_lt_succ 1)]
    simp only [Result.andThen]
    rw [Oper.upon_value]
    go_wp2
    rw [run_callFunc_extern Try.func40 (by kernel_rfl) (by kernel_rfl) (by kernel_rfl) (e := Extern.AbiNoEscape.same) (by kernel_rfl)]
    rw [Lib.run_noEscape]
    simp only [Result.andThen]
    rw [Oper.upon_value]
    go_wp2
    rw [Lib.run_from_unsafe w ⟨b, 0, none⟩ Try.underlying75 Try.underlying63 hj' hsh bldExtra.liesBuilder]
    simp only [Result.andThen]
    rw [Oper.upon_value]
    go_wp2
    go_end0
    exact ⟨rfl, HO.out.set 0 _, (Only.refl [b] w).setCell (p := ⟨b, 0, none⟩) (.inl (by simp)) _⟩
  · go_enter Try.func38, Try.ntmps38
    go_wp2
    rw [Lib.run_neq_ptr_same w _ Try.underlying63 hj']
    go_wp2
    go_end0
    exact ⟨rfl, HO.out, Only.refl _ _⟩
set_option maxHeartbeats 2000000 in
theorem wbyte (w : World) (b base : Nat) (l : List Int) (c : Int) (h : Bl w b base l) (hc : 0 ≤ c ∧ c ≤ 255) (hl : l.length ≤ 1000) :
    Calls Try.prog 33 #[.pointer (some ⟨b, 0, none⟩), .int .u8 c] w fun e w' => e = .returned .nilIface ∧ Bl w' b base (l ++ [c]) ∧ Below base w w' := by
  obtain ⟨p, v, hp, ho, hv, hlow⟩ := h
  have HV := hid hv
  have hlt := ho.lt
  have hneB := own_neB ho hv
  clear hv
  go_enter Try.func33, Try.ntmps33
  go_wp2_with fail
  refine (ccheck w b p v hp ho).mono ?_
  rintro e w1 ⟨rfl, h1, o1⟩
  have B : Hid (Below base w w1) := hid (o1.below (Below.refl _ _) (by omega) (by simpa using hlow))
  have OB := hid h1
  have V := hid (HV.out.only o1 (fun k hk hm => by simp at hm; subst hm; exact hneB hk))
  have hlt1 := h1.lt
  clear ho o1 h1 HV
  have c1 := OB.out.cell 1
  have f1 := OB.out.frozen 1
  have VL : Hid (Own .u8 5 (w1.alloc (.cells #[.int .u8 c] 5)) base (.slice (some ⟨w1.heap.size, 0, none⟩) 1 1) [c]) := hid (Own.lit .u8 5 w1 base [c] #[.int .u8 c] 1 rfl rfl (by omega) (by simp [maxLen]) (by intro z hz; simp at hz; subst hz; exact (Lit.wf_int_iff .u8 _).2 hc))
  have B := hid (B.out.alloc (by omega) (.cells #[.int .u8 c] 5)); have V := hid (V.out.alloc (.cells #[.int .u8 c] 5)); have OB := hid (OB.out.alloc (.cells #[.int .u8 c] 5))
  go_wp2_with (at_builtin; refine wpList_app _ rfl (.tmp 11) (.tmp 13) _ rfl elemB base v l rfl ?ca (some ⟨w1.heap.size, 0, none⟩) 1 1 [c] rfl ?cb ?cc ?cd ?ce ?cf ?_)
  case ca => exact V.out
  case cb => exact VL.out.rd
  case cc => simp
  case cd => omega
  case ce => unfold maxLen; omega
  case cf => simp; omega
  intro v2 w2 hv hg hb
  have hne2 : v.ownBlock ≠ some b := own_neB OB.out V.out
  have OB := hid (OB.out.grown hg hne2)
  have B := hid (B.out.grown hg (by have := B.out.size; omega) (fun k hk => (V.out.lt k hk).1))
  have V2 := hid hv
  have hn2 := own_neB OB.out hv
  have c1 := OB.out.cell 1
  have f1 := OB.out.frozen 1
  obtain ⟨A2, cap2, ev, _, _, _, _⟩ := hv.slice
  have hlen : (l ++ [c]).length = l.length + 1 := by simp
  rw [hlen] at ev
  subst ev
  clear hv hg hb VL V
  go_wp2
  go_ret
  refine ⟨rfl, ⟨.pointer (some ⟨b, 0, none⟩), .slice A2 (l.length + 1) cap2, .inr rfl, OB.out.set 1 _, ?_, hlow⟩, B.out.setCell (p := ⟨b, 1, none⟩) hlow _⟩
  exact V2.out.only ((Only.refl [b] w2).setCell (p := ⟨b, 1, none⟩) (.inl (by simp)) _) (fun k hk hm => by simp at hm; subst hm; exact hn2 hk)
theorem bstring (w : World) (b base : Nat) (l : List UInt8) (h : Bl w b base (l.map (fun x => (x.toNat : Int)))) (h0 : l ≠ []) :
    Calls Try.prog 34 #[.pointer (some ⟨b, 0, none⟩)] w fun e w' => e = .returned (.string ⟨l.toArray⟩) ∧ Below base w w' := by
  obtain ⟨p, v, hp, ho, hv, hlow⟩ := h
  have hn := own_neB ho hv
  have ho' : w.heap[b]? = some (.cells #[p, v] 65 (0, 0)) := ho
  have hr : w.ownsRow base 5 1 v l.length (Lib.byteCells l) := by
    have h9 := hv.1
    rw [List.length_map, List.map_map] at h9
    exact h9
  have hb : Lib.IsBuilder 65 5 base b (Lib.byteCells l) w := by
    rcases hp with rfl | rfl
    · exact .inl ⟨hlow, v, ho', by rw [Lib.byteCells_length]; exact hr, hn⟩
    · exact .inr ⟨hlow, v, ho', by rw [Lib.byteCells_length]; exact hr, hn⟩
  exact Any.Builder_String bldLays bldExtra base b l w hb h0
end Go.Proofs.Ytiihhngddmboaaa.eth
