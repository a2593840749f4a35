/-
  append of so many noughts (what append(b, make([]byte, k)...) becomes) onto a row of the call's own; Writer.Byte with a word on where its row lies. Conditions: none but those typed.
-/
import Derived.Test.YtdpmjghdmpaehaaWrt
import Derived.Test.YtdpmjghdmpaehaaCpy
import Derived.Lib.AppendZerosOnto
namespace Go.Proofs.Ytdpmjghdmpaehaa
set_option linter.unusedVariables false
set_option linter.unusedSimpArgs false
open Go.ChangeShapes Go.WideShapes Go.ChangeAt Go.RowKit Go.IntWalk Go.Lib
theorem zeroCells_int (kd : IntKind) (n : Nat) : Builtin.zeroCells (Value.int kd 0).cells n = (List.replicate n (Value.int kd 0)).toArray := by
  have e : (Value.int kd 0).cells = #[Value.int kd 0] := rfl
  rw [e]
  unfold Builtin.zeroCells
  apply Array.ext
  · simp
  · intro i h1 h2
    simp [Nat.mod_one]
theorem run_app0 {P : Program} (w : World) {t tn e : TypeId} {k : IntKind} {bytes : Nat} (E : Elem P t e k bytes) (htn : P.underlying tn = some (.int .i64)) (ty : TypeId) (base : Nat) (v : Value) (xs : List Int) (hown : Own k e w base v xs) (m : Nat) (hm : 0 < m) (hx : 0 < xs.length) (h0 : (Lit.int k 0).wf = true)
    (hb : (xs.length + m) * bytes ≤ 140737488355328) (h63 : xs.length + m ≤ maxLen) (hbase : base ≤ w.heap.size) :
    ∃ v' w', (Builtin.append_ #[t, tn] ty #[v, .int .i64 (m : Int)]).run P w = .ok v' w' ∧ Own k e w' base v' (xs ++ List.replicate m 0) ∧ w.grownBy w' v.ownBlock ∧ (v'.ownBlock = v.ownBlock ∨ v'.ownBlock = some w.heap.size) := by
  obtain ⟨i, hi, hz, hs, hby⟩ := info_parts E.info
  have hwf : ∀ z ∈ xs ++ List.replicate m 0, (Lit.int k z).wf = true := by
    intro z hz
    rcases List.mem_append.1 hz with h | h
    · exact hown.2 z h
    · rw [(List.mem_replicate.1 h).2]; exact h0
  have hm63 : (m : Int) ≤ 9223372036854775807 := by simp only [maxLen] at h63; omega
  have hw : IntKind.i64.wrap (m : Int) = m := by rw [IntKind.wrap_i64]; omega
  have hneg : ¬ ((m : Int) < 0) := by omega
  have hmb : m * bytes ≤ 140737488355328 := Nat.le_trans (Nat.mul_le_mul_right _ (by omega)) hb
  have h48i : ¬ (281474976710656 < (m : Int) * (i.bytes : Int)) := by
    rw [hby, ← Int.natCast_mul]
    omega
  have hm0 : m ≠ 0 := by omega
  have hlen : ((xs ++ List.replicate m 0).map (Value.int k)).length = (xs.length + m) * 1 := by simp
  rcases hown.1.2 with ⟨_, h1⟩ | ⟨g, cap, cur, rfl, hbg, hg, hnc, hcm, hcs, htake⟩
  · omega
  by_cases hroom : xs.length + m ≤ cap
  · have hst := run_storeCells_at P g xs.length e (List.replicate m (Value.int k 0)) 0 cur w hg (by simp; omega) (by intro u hu; rw [(List.mem_replicate.1 hu).2]; rfl)
    have hr : (Builtin.append_ #[t, tn] ty #[.slice (some ⟨g, 0, none⟩) xs.length cap, .int .i64 (m : Int)]).run P w = .ok (.slice (some ⟨g, 0, none⟩) (xs.length + m) cap) (w.setRow g (cur.toList.take xs.length ++ List.replicate m (Value.int k 0) ++ cur.toList.drop (xs.length + m)).toArray) := by
      simp only [Nat.add_zero, List.length_replicate] at hst
      have hmm : ¬ (m * i.size = 0) := by rw [hs]; omega
      simp [Builtin.append_, run_underlying E.ht, run_underlying htn, sizeOf, typeInfo, zeroValue, hi, hz, hs, asInt, asIntOf, hw, hneg, h48i, hm0, hroom, zeroCells_int, Addr.add_lit, hst]
    refine ⟨_, _, hr, ⟨⟨by simp, .inr ⟨g, cap, _, by simp, hbg, setRow_heap w g cur _ e _ hg, by simpa using hroom, hcm, ?_, ?_⟩⟩, hwf⟩, ⟨rfl, rfl, rfl, by simp, fun j _ hj => setRow_other w g j _ (fun e => hj (by simp [Value.ownBlock, e]))⟩, .inl rfl⟩
    · simp only [List.size_toArray, List.length_append, List.length_take, List.length_drop, Array.length_toList, List.length_replicate]
      omega
    · have h9 : cur.toList.take xs.length = xs.map (Value.int k) := by simpa using htake
      rw [h9]
      simp [List.take_append, List.take_of_length_le]
  · have hold : (Builtin.firstCells i.size xs.length (.slice (some ⟨g, 0, none⟩) xs.length cap)).run P w.drew = .ok (xs.map (Value.int k)).toArray w.drew :=
      run_firstCells_some (P := P) w.drew i.size xs.length ⟨g, 0, none⟩ xs.length cap (xs.map (Value.int k)) (by simp [hs]) (hown.1.cells (g := g) rfl)
    have hr := Lib.run_append_grow_zeros (P := P) w t tn ty e i _ .i64 .i64 E.ht htn hi hz (some ⟨g, 0, none⟩) xs.length cap (xs.map (Value.int k)) hold m hm (by rw [hs]; omega) (by omega) (by simp only [maxLen] at h63; omega) (by rw [hby]; omega) (by rw [hby]; exact growslice_fits (by omega) hb)
    refine ⟨_, _, hr, ⟨⟨by simp, .inr ⟨w.heap.size, _, _, by simp, hbase, heap_alloc_new w.drew _, by simpa using grownCap_ge w (xs.length + m) cap e, grownCap_le_maxLen w (xs.length + m) cap e h63, ?_, ?_⟩⟩, hwf⟩, ⟨rfl, rfl, rfl, by simp, fun j hj _ => heap_alloc_old w.drew _ hj⟩, .inr rfl⟩
    · have := grownCap_ge w (xs.length + m) cap e
      rw [zeroCells_int, zeroCells_int]
      simp
      omega
    · rw [zeroCells_int, zeroCells_int]
      simp [List.take_append, List.take_of_length_le]
theorem wpList_app0 {P : Program} (zs : List Int) {w : World} {k : IntKind} {e : TypeId} {ops : Array Oper} {rest : List Oper} {o : Oper} {a : Act} {Q : Exit → Act → World → Prop} (hgd : o.guard = none) (s x : Operand) (t tn : TypeId)
    (ho : o.op = .call { callee := .builtin .append, args := #[s, x], argTypes := #[t, tn] }) {bytes : Nat} (E : Elem P t e k bytes) (htn : P.underlying tn = some (.int .i64)) (base : Nat) (v : Value) (xs : List Int) (hs : a.eval s = v) (hown : Own k e w base v xs)
    (m : Nat) (hzs : List.replicate m 0 = zs) (hx : a.eval x = .int .i64 (m : Int)) (hm : 0 < m) (hx0 : 0 < xs.length) (h0 : (Lit.int k 0).wf = true) (hb : (xs.length + m) * bytes ≤ 140737488355328) (h63 : xs.length + m ≤ maxLen) (hbase : base ≤ w.heap.size)
    (h : ∀ v' w', Own k e w' base v' (xs ++ zs) → w.grownBy w' v.ownBlock → (v'.ownBlock = v.ownBlock ∨ v'.ownBlock = some w.heap.size) → wpList P ops Q rest (a.put o.dst v') w') : wpList P ops Q (o :: rest) a w := by
  subst hzs
  refine wpList_plain hgd fun K hK => ?_
  obtain ⟨v', w', hr, h2, h3, h5⟩ := run_app0 (P := P) w E htn o.type base v xs hown m hm hx0 h0 hb h63 hbase
  unfold Oper.wp execOp
  simp only [ho, resolve, invoke, builtin, Sem.run_bind, Sem.run_pure, Result.andThen_ok, List.map_toArray, List.map_cons, List.map_nil, hs, hx, hr]
  exact hK _ _ (h v' w' h2 h3 h5)
namespace wrt
set_option maxHeartbeats 4000000 in
theorem byte3 (w : World) (g base : Nat) (v : Value) (l : List Int) (x : Int) (h : wrt.Wr w g base v l) (hl : l.length ≤ 35184372088832) :
    Calls Try.prog 30 #[.pointer (some ⟨g, 0, none⟩), .int .i64 x] w fun e w' => e = .returned (.tuple #[]) ∧ Below base w w' ∧ ∃ v', wrt.Wr w' g base v' (l ++ [x % 256]) ∧ Only (g :: v.ownBlock.toList) w w' ∧ (∀ i, v'.ownBlock = some i → v.ownBlock = some i ∨ w.heap.size ≤ i) := by
  have c0 := h.ob.cell 0
  have f0 := h.ob.frozen 0
  have hlow := h.low
  have hsz : base ≤ w.heap.size := Nat.le_of_lt (Nat.lt_of_le_of_lt h.low h.ob.lt)
  have H := hid h; clear h
  have hk : IntKind.u64.wrap x % 256 = x % 256 := by rw [IntKind.wrap_u64]; omega
  have HWF : Hid (∀ z ∈ [x % 256], (Lit.int .u8 z).wf = true) := hid (by intro z hz; simp at hz; apply (Lit.wf_int_iff .u8 z).2; show 0 ≤ z ∧ z ≤ 255; omega)
  go_enter Try.func30, Try.ntmps30
  go_wp2_with (at_builtin; refine wpList_app _ rfl (.tmp 10) (.tmp 14) _ rfl wrt.elemB base v l rfl ?c1 (some ⟨w.heap.size, 0, none⟩) 1 1 [x % 256] rfl ?c2 ?c3 ?c4 ?c5 ?c6 ?_)
  case c1 => exact H.out.own.alloc _
  case c2 => exact (Own.lit .u8 5 w base [x % 256] _ 1 rfl rfl hsz (by simp [maxLen]) HWF.out).rd
  case c3 => simp
  case c4 => omega
  case c5 => unfold maxLen; omega
  case c6 => simp; omega
  intro v1 w1 hv hg hb
  have V1 := hid hv
  have HOO : Hid (Only (g :: v.ownBlock.toList) w w1) := hid (((Only.refl _ w).alloc _).of_grown hg (fun k hk => .inl (by rw [hk]; simp)))
  have hB : Below base w w1 := ((Below.refl base w).alloc hsz _).grown hg (by simp; omega) (fun k hk => (H.out.own.lt k hk).1)
  have hO : Ob w1 g 63 #[v] := by
    have h1 := H.out.ob.alloc (.cells (([x % 256] : List Int).map (Value.int .u8)).toArray 5)
    exact (hg.block g h1.lt (fun e => H.out.apart e.symm)).trans h1
  obtain ⟨A1, cap1, ev1, _, _, _, _⟩ := V1.out.slice
  simp only [List.length_append, List.length_cons, List.length_nil, Nat.zero_add, Nat.reduceAdd] at ev1
  subst ev1
  have c1 := hO.cell 0
  have f1 := hO.frozen 0
  have HB := hid hB; have HO := hid hO
  have HBB : Hid (∀ i, (Value.slice A1 (l.length + 1) cap1).ownBlock = some i → v.ownBlock = some i ∨ w.heap.size ≤ i) := hid (fun i hi => by
    rcases hb with h | h
    · exact .inl (h ▸ hi)
    · rw [hi] at h; right; have h9 : i = w.heap.size + 1 := by simpa using h
      omega)
  clear hv hg hb hB hO c0 f0
  go_wp2
  refine bodyPost_end (results_none rfl _ _ _) rfl ?_
  refine ⟨rfl, HB.out.setCell hlow _, _, ⟨HO.out.set 0 _, V1.out.only ((Only.refl [g] w1).setCell (p := ⟨g, 0, none⟩) (Or.inl (by simp)) _) ?_, hlow⟩, HOO.out.setCell (p := ⟨g, 0, none⟩) (Or.inl (by simp)) _, HBB.out⟩
  intro k hk hm
  obtain rfl : k = g := by simpa using hm
  exact wrt.own_ne HO.out V1.out hk
end wrt
end Go.Proofs.Ytdpmjghdmpaehaa
