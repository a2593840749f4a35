/-
  A row that is spoilt: whatever it holds, only its own block turns; as a call known ahead. Conditions: that the row is there.
-/
import Derived.Test.YtiihhngddmboaaaEvHp
import Derived.Test.YtiihhngddmboaaaOwn
import Derived.Test.YtiihhngddmboaaaBit
import Derived.Deep.QuietTactic
import Derived.BigQuiet
import Derived.KernelRfl
namespace Go.Proofs.Ytiihhngddmboaaa.ev
set_option linter.unusedVariables false
set_option linter.unusedSimpArgs false
open Go.ChangeShapes Go.WideShapes Go.ChangeAt Go.RowKit Go.IntWalk Go.Lib
theorem run_app_one (w : World) (ty : TypeId) (b off n cap g : Nat) (hth : w.there b off cap) (hn : n ≤ cap) (hmx : n ≤ 1000000) (h99 : w.cell? ⟨g, 0, none⟩ = some (.int .u8 99)) :
    ∃ b2 off2 cap2 w', (Builtin.append_ #[24, 24] ty #[.slice (some ⟨b, off, none⟩) n cap, .slice (some ⟨g, 0, none⟩) 1 1]).run Try.prog w = .ok (.slice (some ⟨b2, off2, none⟩) (n + 1) cap2) w' ∧
      w'.there b2 off2 (n + 1) ∧ Only [b] w w' ∧ (b2 = b ∨ w.heap.size ≤ b2) := by
  letI : Env := env []
  cases hA : appT Try.prog 24 24 with
  | none =>
    have h : (appT Try.prog 24 24).isSome = true := by kernel_rfl
    rw [hA] at h; cases h
  | some A =>
  have hsb : (appT Try.prog 24 24).map (fun A => (A.i.size, A.i.bytes)) = some (1, 1) := by kernel_rfl
  rw [hA] at hsb
  simp only [Option.map_some, Option.some.injEq, Prod.mk.injEq] at hsb
  obtain ⟨b1, b2⟩ := hsb
  obtain ⟨hk, hu, hi, hz, hzs, h0⟩ := appT_ok hA
  have hlen : ∀ w, (Builtin.lenOf (.slice (some ⟨g, 0, none⟩) 1 1)).run Try.prog w = .ok 1 w := fun w => by simp [Builtin.lenOf]
  have hcells : ∀ W : World, W.heap = w.heap → (Builtin.firstCells A.i.size 1 (.slice (some ⟨g, 0, none⟩) 1 1)).run Try.prog W = .ok ([Value.int .u8 99] : List Value).toArray W := fun W hW => by
    rw [b1]
    refine run_firstCells_some (P := Try.prog) W 1 (0 + 1) _ 1 1 _ rfl (fun jj u hu' => ?_)
    cases jj with
    | zero =>
      cases hu'
      rw [Addr.add_mid, World.cell?_of_block (w := w) (by rw [hW])]
      exact h99
    | succ jj => simp at hu'
  by_cases hcap : n + 1 ≤ cap
  · have hth' : w.there b (off + n * A.i.size) ([Value.int .u8 99] : List Value).length := by
      rw [b1, Nat.mul_one]
      exact there_sub hth (by simpa using hcap)
    have hrun := run_app_room (P := Try.prog) (ty := ty) hu hk hi hlen hcells (by intro u hu; simp at hu; subst hu; rfl) hcap hth'
    rw [b1, Nat.mul_one] at hrun
    exact ⟨b, off, cap, _, hrun, World.there_setCells (fun j hj => hth j (by omega)) _ _ _, (Only.refl _ w).setCell (p := ⟨b, off + n, none⟩) (.inl (by simp)) _, .inl rfl⟩
  · let olds := (List.range n).map fun j => (w.cell? ⟨b, off + j, none⟩).getD undef
    have holds : ∀ W : World, W.heap = w.heap → (Builtin.firstCells A.i.size n (.slice (some ⟨b, off, none⟩) n cap)).run Try.prog W = .ok olds.toArray W := fun W hW => by
      cases n with
      | zero => simpa [olds] using firstCells_zero (P := Try.prog) (sz := A.i.size) (a := some ⟨b, off, none⟩) (l := 0) (c := cap) W
      | succ n =>
        rw [b1]
        refine run_firstCells_some (P := Try.prog) W 1 (n + 1) _ (n + 1) cap _ (by simp [olds]) (fun jj u hu' => ?_)
        rw [Addr.add_mid, World.cell?_of_block (w := w) (by rw [hW])]
        have hj : jj < n + 1 := by
          have := (List.getElem?_eq_some_iff.1 hu').1
          simpa [olds] using this
        simp only [olds, List.getElem?_map, List.getElem?_range hj, Option.map_some, Option.some.injEq] at hu'
        have hs := (hth jj (by omega)).1
        cases hc : w.cell? ⟨b, off + jj, none⟩ with
        | none => rw [hc] at hs; cases hs
        | some v => rw [hc] at hu'; simpa using hu'
    have hrun := run_app_grow (P := Try.prog) (ty := ty) (w := w) hu hk hi hz (s := .slice (some ⟨b, off, none⟩) n cap) rfl hlen hcells holds (by omega) (by omega) (by rw [b2]; omega)
    have hb := heap_alloc_new w.drew (.cells (olds.toArray ++ ([Value.int .u8 99] : List Value).toArray ++ Builtin.zeroCells A.z.cells (grownCap w (n + 1) cap A.e - (n + 1))) A.e)
    refine ⟨w.heap.size, 0, _, _, hrun, fun j hj => ?_, (Only.refl _ w).drew.alloc _, .inr (Nat.le_refl _)⟩
    rw [Nat.zero_add]
    show (World.cell? _ ⟨w.drew.heap.size, j, none⟩).isSome = true ∧ World.frozen? _ ⟨w.drew.heap.size, j, none⟩ = false
    rw [cell_of_row _ _ _ _ _ _ hb, frozen_of_row _ _ _ _ _ hb]
    refine ⟨?_, rfl⟩
    have hsz : j < (olds.toArray ++ ([Value.int .u8 99] : List Value).toArray ++ Builtin.zeroCells A.z.cells (grownCap w (n + 1) cap A.e - (n + 1))).size := by
      simp only [Array.size_append, List.size_toArray, olds, List.length_map, List.length_range, List.length_cons, List.length_nil]
      omega
    rw [Array.getElem?_eq_getElem hsz]
    rfl
theorem wpList_one {ops : Array Oper} {rest : List Oper} {o : Oper} {a : Act} {Q : Exit → Act → World → Prop} {w : World} (hgd : o.guard = none) (s x : Operand)
    (ho : o.op = .call { callee := .builtin .append, args := #[s, x], argTypes := #[24, 24] }) (b off n cap g : Nat) (hs : a.eval s = .slice (some ⟨b, off, none⟩) n cap) (hx : a.eval x = .slice (some ⟨g, 0, none⟩) 1 1)
    (hth : w.there b off cap) (hn : n ≤ cap) (hmx : n ≤ 1000000) (h99 : w.cell? ⟨g, 0, none⟩ = some (.int .u8 99))
    (h : ∀ b2 off2 cap2 w', w'.there b2 off2 (n + 1) → Only [b] w w' → (b2 = b ∨ w.heap.size ≤ b2) → wpList Try.prog ops Q rest (a.put o.dst (.slice (some ⟨b2, off2, none⟩) (n + 1) cap2)) w') : wpList Try.prog ops Q (o :: rest) a w := by
  refine wpList_plain hgd fun K hK => ?_
  obtain ⟨b2, off2, cap2, w', hr, h1, h2, h3⟩ := run_app_one w o.type b off n cap g hth hn hmx h99
  unfold Oper.wp execOp
  simp only [ho, resolve, invoke, builtin, Sem.run_bind, Sem.run_pure, Result.andThen_ok, List.map_toArray, List.map_cons, List.map_nil, hs, hx, hr]
  exact hK _ _ (h b2 off2 cap2 w' h1 h2 h3)
set_option maxHeartbeats 1000000 in
theorem spoilT (w : World) (b off n cap : Nat) (hth : w.there b off cap) (hn : n ≤ cap) (hmx : n ≤ 1000000) (hb : b < w.heap.size) :
    Calls Try.prog 14 #[.slice (some ⟨b, off, none⟩) n cap] w fun e w' => e = .returned (.tuple #[]) ∧ Only [b] w w' := by
  have HT := hid hth; clear hth
  have TA : Hid (World.there (w.alloc (.cells #[.int .u8 99] 5)) b off cap) := hid (there_block HT.out (heap_alloc_old w _ hb))
  have C99 : Hid ((w.alloc (.cells #[.int .u8 99] 5)).cell? ⟨w.heap.size, 0, none⟩ = some (.int .u8 99)) := hid (by rw [cell_of_row _ _ _ _ _ _ (heap_alloc_new w _)]; rfl)
  go_enter Try.func14, Try.ntmps14
  go_wp2_with (at_builtin; refine wpList_one rfl (.tmp 4) (.tmp 5) rfl b off n cap w.heap.size rfl rfl ?c1 hn hmx ?c2 ?_)
  case c1 => exact TA.out
  case c2 => exact C99.out
  intro b2 off2 cap2 w1 ht1 ho1 hb2
  have T1 := hid ht1
  have B1 : Hid (Only [b] w w1) := hid (((Only.refl [b] w).alloc _).trans ho1)
  have HG : Hid (b2 ∈ [b] ∨ w.heap.size ≤ b2) := hid (by
    rcases hb2 with h1 | h1
    · left; simp [h1]
    · right
      first | omega | (simp at h1; omega))
  clear ht1 ho1 hb2 TA C99 HT
  go_wp2_with fail
  go_loopw [3] (fun i wr => ∃ (j : Nat), j ≤ n + 1 ∧ i = .int .i64 j ∧ Hid (World.there wr b2 off2 (n + 1)) ∧ Hid (Only [b] w wr)) (fun i _ => n + 1 - (intOf i).toNat)
  case atStart => exact ⟨0, by omega, rfl, T1, B1⟩
  case round =>
    obtain ⟨j, hj, rfl, HV, HB⟩ := hrel
    by_cases hlt : j < n + 1
    · obtain ⟨h1, f0⟩ := HV.out j hlt
      obtain ⟨v0, c0⟩ := Option.isSome_iff_exists.1 h1
      clear h1
      go_wp2
      go_roundw
      case rel => exact ⟨j + 1, by omega, by go_num, hid (by
        have := World.there_setCells HV.out b2 (off2 + j) [Value.int .u8 98]
        exact this), hid (HB.out.setCell (p := ⟨b2, off2 + j, none⟩) HG.out _)⟩
      case measure => simp [intOf]; omega
    · go_wp2
      refine bodyPost_end (results_none rfl _ _ _) rfl ?_
      exact ⟨rfl, HB.out⟩
/-! ### As a call known ahead -/
/-- A row of bytes that the program made itself. -/
def ownRow (bt : TypeId) : Ao → Bool
  | .row C t _ => notSym C && Nat.beq t bt
  | _ => false
def spoilS (qs : List Nat) (bt : TypeId) : Value → Comp Value
  | .slice (some ⟨i, o, some (q + 1)⟩) l d => gd (memN q qs && (Nat.blt 0 l && Nat.ble d 20000)) (bind (rd i) fun ao => gd (ownRow bt ao) (bind (wr i none) fun _ => ret (.tuple #[])))
  | _ => fail
theorem ownRow_ok {bt : TypeId} {ao : Ao} (h : ownRow bt ao = true) : ∃ C t g, ao = .row C t g ∧ C.isSym = false := by
  unfold ownRow at h
  split at h
  · rename_i C t g
    simp only [Bool.and_eq_true] at h
    exact ⟨C, t, g, rfl, notSym_ok h.1⟩
  · cases h
theorem spoilS_loc {qs : List Nat} {bt : TypeId} {x : Value} : Local (spoilS qs bt x) := by
  unfold spoilS
  split
  · exact Local.gd (Local.bind (Local.rd _) fun _ => Local.gd (Local.bind (Local.wr _ _) fun _ => Local.ret _))
  · exact Local.fail
def spSpoil (k0 : FuncId) (bt : TypeId) (qs : List Nat) : SpF := fun k args => match args with
  | [x] => match Nat.beq k k0 && isSsl x with
    | true => some (spoilS qs bt x)
    | false => none
  | _ => none
theorem spSpoil_ok [Env] {qs : List Nat} (hq : ∀ q ∈ qs, lenOf q ≤ 70000) : SpOK Try.prog (spSpoil 14 5 qs) := by
  have key : ∀ k args m, spSpoil 14 5 qs k args = some m → ∃ x, args = [x] ∧ k = 14 ∧ m = spoilS qs 5 x := by
    intro k args m h
    unfold spSpoil at h
    split at h
    · rename_i x
      split at h
      · rename_i hb
        simp only [Bool.and_eq_true] at hb
        cases h
        exact ⟨x, rfl, Nat.of_beq hb.1, rfl⟩
      · cases h
    · cases h
  refine ⟨fun k args m h => ?_, fun k args m h => ?_, fun k args m h => ?_⟩
  · obtain ⟨x, _, _, rfl⟩ := key k args m h
    exact spoilS_loc
  · obtain ⟨x, _, rfl, _⟩ := key k args m h
    have hf : ((Try.prog.funcs[14]?).any fun fn => fn.body.isSome) = true := by kernel_rfl
    cases hfn : Try.prog.funcs[14]? with
    | none => rw [hfn] at hf; cases hf
    | some fn =>
      rw [hfn] at hf
      refine ⟨fn, rfl, noCount' _ fn hfn, ?_⟩
      cases hb : fn.body with
      | none => rw [show (some fn).any (fun fn => fn.body.isSome) = fn.body.isSome from rfl, hb] at hf; cases hf
      | some b => rfl
  · obtain ⟨x, rfl, rfl, rfl⟩ := key k args m h
    intro N args' β c hh o w he hp hs hN hfr
    obtain ⟨x', rfl, hx⟩ := hp.one
    unfold spoilS at he
    split at he
    rotate_left
    · cases he
    rename_i i off q l d
    obtain ⟨hb, he⟩ := gd_some he
    simp only [Bool.and_eq_true] at hb
    have b1 := hq _ (memN_ok hb.1)
    have b2 := Nat.le_of_ble_eq_true hb.2.2
    obtain ⟨o1, q1, ho1, hq1, rfl⟩ := bind_some he
    obtain ⟨r1, g1⟩ := rd_some ho1
    obtain ⟨ho, hq1⟩ := gd_some hq1
    have ec : o1.c = c := by rw [r1]
    have eh : o1.h = hh := by rw [r1]
    rw [ec, eh] at hq1
    obtain ⟨o2, q2, ho2, hq2, rfl⟩ := bind_some hq1
    obtain ⟨h', rfl, hset⟩ := wr_some ho2
    simp only [ev.ret, Option.some.injEq] at hq2; subst hq2
    obtain ⟨C, t, g, hao, hns⟩ := ownRow_ok ho
    rw [hao] at g1
    cases hx with
    | @ssl _ I a' _ _ _ _ cap hβ k1 k2 k3 k4 k5 k6 k7 =>
      obtain ⟨I', hI, hN', hlt, hob⟩ := hs.obj i _ g1
      rw [hβ] at hI; cases hI
      obtain ⟨hok, vs, hpw, hlen, hra, hth, _, _, hfz⟩ := hob
      have hth := nosym hns hth
      have hN' := nosym hns hN'
      have hL : lenS q d ≤ 90000 := lenS_bd b1 b2
      have hcall : Calls Try.prog 14 #[.slice (some a') (lenS q d) cap] w fun e w' => e = .returned (.tuple #[]) ∧ Only [I.blk] w w' := by
        rcases k6 with rfl | hc0
        · exact spoilT w I.blk (I.base + off) (lenS q d) cap (there_sub hth k7) k2 (by omega) hlt
        · have := blt_true hb.2.1
          omega
      refine hcall.mono ?_
      rintro e w' ⟨rfl, honly⟩
      have hother : ∀ j o' J, j ≠ i → Tr.get dep hh j = some o' → β j = some J → w'.heap[J.blk]? = w.heap[J.blk]? := fun j o' J hj hjo hJ => by
        obtain ⟨J', j1, _, j3, _⟩ := hs.obj j o' hjo
        rw [hJ] at j1; cases j1
        have hne := hs.far (o := .row C t g) hns hjo g1 hJ hβ hj
        exact honly.block _ j3 (by simpa using hne)
      refine ⟨_, β, rfl, Ext.refl _ _ _, hs.upd honly.size i none hset (fun _ _ h => h) (fun ob heq => by cases heq) hother, VR.undef, ?_⟩
      exact ⟨honly.os, honly.tape, honly.output, honly.size, fun k hk => honly.block k (by omega) (by simp; omega)⟩
end Go.Proofs.Ytiihhngddmboaaa.ev
