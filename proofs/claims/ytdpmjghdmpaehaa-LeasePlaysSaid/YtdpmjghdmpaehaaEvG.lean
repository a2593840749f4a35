/-
  append and copy. Conditions: none.
-/
import Derived.Test.YtdpmjghdmpaehaaEvF
namespace Go.Proofs.Ytdpmjghdmpaehaa.ev
set_option linter.unusedVariables false
set_option linter.unusedSimpArgs false
variable {P : Program} {N : Nat} {β : Mp}
/-- What is appended or copied: the first n elements' cells. -/
def cutCells (o k : Nat) : Ao → Option (List Value)
  | .row C _ _ => match Nat.beq (C.sub o k).length k with
    | true => some (C.sub o k)
    | false => none
  | _ => none
def srcCells (sz n : Nat) : Value → Comp (List Value)
  | .slice (some ⟨j, o, none⟩) l _ => match n with
    | 0 => ret []
    | n + 1 => bind (rd j) fun ao => ofOpt (cutCells o ((n + 1) * sz) ao)
  | .slice (some ⟨j, o, some 0⟩) l _ => match n with
    | 0 => ret []
    | n + 1 => bind (rd j) fun ao => ofOpt (cutCells o ((n + 1) * sz) ao)
  | .slice none _ _ => ret []
  | .string s => ofOpt (match Nat.beq n s.data.toList.length with
    | true => some (s.data.toList.map fun b => .int .u8 b.toNat)
    | false => none)
  | _ => fail
def lenV : Value → Option Nat
  | .slice none 0 _ => some 0
  | .slice (some ⟨_, _, none⟩) n _ => some n
  | .slice (some ⟨_, _, some 0⟩) n _ => some n
  | .string s => some s.data.toList.length
  | _ => none
theorem lenV_ok [Env] {x x' : Value} {n : Nat} (hx : VR β x x') (h : lenV x = some n) (w : World) : (Builtin.lenOf x').run P w = .ok n w := by
  cases hx with
  | nils l c => cases l with
    | zero => simp only [lenV, Option.some.injEq] at h; subst h; simp [Builtin.lenOf]
    | succ l => simp [lenV] at h
  | sl o l c c' hβ h1 h2 h3 h4 => simp only [lenV, Option.some.injEq] at h; subst h; simp [Builtin.lenOf]
  | ksl o l c c' hβ h1 h2 h3 => simp only [lenV, Option.some.injEq] at h; subst h; simp [Builtin.lenOf]
  | str s => simp only [lenV, Option.some.injEq] at h; subst h; simp only [Builtin.lenOf, Sem.run_pure]; rfl
  | _ => simp [lenV] at h
theorem srcCells_ok [Env] {sz n : Nat} {x x' : Value} (hx : VR β x x') (hn : ∀ a l c, x = .slice a l c → n ≤ l ∧ (a = none → n = 0)) {c : Nat} {h : Tr} {w : World} {o : Out (List Value)} (he : srcCells sz n x c h = some o) (hs : Sim P N β h w) :
    o.c = c ∧ o.h = h ∧ ∃ vs, PW β o.a vs ∧ (∀ u ∈ vs, u.oneCell' = true ∨ ones o.a = false) ∧ o.a.length = (match x with | .string s => n | _ => n * sz) ∧ ∀ W : World, W.heap = w.heap → (Builtin.firstCells sz n x').run P W = .ok vs.toArray W := by
  have hone : ∀ vs, PW β o.a vs → ∀ u ∈ vs, u.oneCell' = true ∨ ones o.a = false := fun vs hp u hu => by
    cases hh : ones o.a with
    | true => exact .inl (hp.oneCell hh u hu)
    | false => exact .inr rfl
  cases hx with
  | nils l c' =>
    simp only [srcCells, ev.ret, Option.some.injEq] at he; subst he
    have h0 := (hn none l c' rfl).2 rfl
    subst h0
    exact ⟨rfl, rfl, [], PW.nil β, hone _ (PW.nil β), by simp, fun W _ => by simp [Builtin.firstCells]⟩
  | @sl i I a' off l cc cc' hβ h1 h2 h3 h4 =>
    cases n with
    | zero =>
      simp only [srcCells, ev.ret, Option.some.injEq] at he; subst he
      refine ⟨rfl, rfl, [], PW.nil β, hone _ (PW.nil β), by simp, fun W _ => ?_⟩
      have := run_loadCells_list (P := P) W a' [] (fun j v hv => by simp at hv)
      simpa [Builtin.firstCells] using this
    | succ n =>
      simp only [srcCells] at he
      obtain ⟨o1, q1, ho1, hq1, rfl⟩ := bind_some he
      simp only [ev.rd] at ho1
      split at ho1
      · rename_i ao hao
        simp only [Option.some.injEq] at ho1; subst ho1
        obtain ⟨v, hv, rfl⟩ := ofOpt_some hq1
        obtain ⟨I', hI, hN', hlt, hob⟩ := hs.obj i ao hao
        rw [hβ] at hI; cases hI
        cases ao with
        | map es clk => cases hv
        | iter q0 p0 => cases hv
        | mapIt q0 q1 q2 q3 => cases hv
        | row C te g =>
          obtain ⟨hok, vs, hpw, hlen, hra, hth, _, _⟩ := hob
          simp only [cutCells] at hv
          split at hv
          · rename_i hb
            have hb := Nat.of_beq hb
            have hs0 := Cs.sub_ok C _ _ hok hb
            rw [hs0] at hb hv
            simp only [Option.some.injEq] at hv; subst hv
            have hp := (hpw.drop off).take ((n + 1) * sz)
            have hle := (hn _ _ _ rfl).1
            have ha : a' = ⟨I.blk, I.base + off, none⟩ := by
              rcases h4 with h4 | h4
              · exact h4
              · omega
            refine ⟨rfl, rfl, _, hp, hone _ hp, by simpa using hb, fun W hW => ?_⟩
            subst ha
            refine run_firstCells_some (P := P) W sz (n + 1) _ l cc' _ (by rw [← hp.1]; exact hb) (fun j u hu => ?_)
            rw [Addr.add_mid]
            have := range_sub hra j u hu
            rw [World.cell?_of_block (w := w) (by rw [hW])]
            exact this
          · cases hv
      · cases ho1
  | @ksl i I a' off l cc cc' hβ h1 h3 h4 =>
    cases n with
    | zero =>
      simp only [srcCells, ev.ret, Option.some.injEq] at he; subst he
      refine ⟨rfl, rfl, [], PW.nil β, hone _ (PW.nil β), by simp, fun W _ => ?_⟩
      have := run_loadCells_list (P := P) W a' [] (fun j v hv => by simp at hv)
      simpa [Builtin.firstCells] using this
    | succ n =>
      simp only [srcCells] at he
      obtain ⟨o1, q1, ho1, hq1, rfl⟩ := bind_some he
      simp only [ev.rd] at ho1
      split at ho1
      · rename_i ao hao
        simp only [Option.some.injEq] at ho1; subst ho1
        obtain ⟨v, hv, rfl⟩ := ofOpt_some hq1
        obtain ⟨I', hI, hN', hlt, hob⟩ := hs.obj i ao hao
        rw [hβ] at hI; cases hI
        cases ao with
        | map es clk => cases hv
        | iter q0 p0 => cases hv
        | mapIt q0 q1 q2 q3 => cases hv
        | row C te g =>
          obtain ⟨hok, vs, hpw, hlen, hra, hth, _, _⟩ := hob
          simp only [cutCells] at hv
          split at hv
          · rename_i hb
            have hb := Nat.of_beq hb
            have hs0 := Cs.sub_ok C _ _ hok hb
            rw [hs0] at hb hv
            simp only [Option.some.injEq] at hv; subst hv
            have hp := (hpw.drop off).take ((n + 1) * sz)
            have hle := (hn _ _ _ rfl).1
            have ha : a' = ⟨I.blk, I.base + off, none⟩ := by
              rcases h4 with h4 | h4
              · exact h4
              · omega
            refine ⟨rfl, rfl, _, hp, hone _ hp, by simpa using hb, fun W hW => ?_⟩
            subst ha
            refine run_firstCells_some (P := P) W sz (n + 1) _ l cc' _ (by rw [← hp.1]; exact hb) (fun j u hu => ?_)
            rw [Addr.add_mid]
            have := range_sub hra j u hu
            rw [World.cell?_of_block (w := w) (by rw [hW])]
            exact this
          · cases hv
      · cases ho1
  | str s =>
    simp only [srcCells] at he
    obtain ⟨v, hv, rfl⟩ := ofOpt_some he
    split at hv
    · rename_i hb
      have hb := Nat.of_beq hb
      simp only [Option.some.injEq] at hv; subst hv
      have hfl : (s.data.toList.map fun b => Value.int .u8 (b.toNat : Int)).all flat = true := by
        rw [List.all_eq_true]; intro v hv
        obtain ⟨b, _, rfl⟩ := List.mem_map.1 hv
        rfl
      refine ⟨rfl, rfl, _, PW.of_flat hfl, hone _ (PW.of_flat hfl), by simp [hb], fun W _ => ?_⟩
      subst hb
      simp only [Builtin.firstCells, Sem.run_pure]
      congr 1
      apply Array.ext'
      have : (s.extract 0 s.data.toList.length) = s := by
        have e : s.data.toList.length = s.size := rfl
        rw [e, ByteArray.extract_zero_size]
      rw [this]
      simp
    · cases hv
  | _ => simp [srcCells, fail] at he
theorem Sim.kill [Env] {h h' : Tr} {w : World} (hs : Sim P N β h w) (i : Nat) (hset : ∀ j, Tr.get dep h' j = if j = i then none else Tr.get dep h j) : Sim P N β h' w :=
  hs.upd (Nat.le_refl _) i none hset (fun _ _ h => h) (fun o he => by cases he) (fun _ _ _ _ _ _ => rfl)
theorem run_app_room {t tx ty e : TypeId} {i : TypeInfo} (ht : P.underlying t = some (.slice e)) (hk : (∃ e', P.underlying tx = some (.slice e')) ∨ P.underlying tx = some .string) (hi : P.info? e = some i) {x : Value} {n b off sLen sCap : Nat} {vs : List Value} {w : World}
    (hlen : ∀ w, (Builtin.lenOf x).run P w = .ok n w) (hcells : ∀ W : World, W.heap = w.heap → (Builtin.firstCells i.size n x).run P W = .ok vs.toArray W) (h1 : ∀ u ∈ vs, u.oneCell' = true) (hroom : sLen + n ≤ sCap) (hth : w.there b (off + sLen * i.size) vs.length) :
    (Builtin.append_ #[t, tx] ty #[.slice (some ⟨b, off, none⟩) sLen sCap, x]).run P w = .ok (.slice (some ⟨b, off, none⟩) (sLen + n) sCap) (w.setCells b (off + sLen * i.size) vs) := by
  have hst := run_storeCells_cells (P := P) b (off + sLen * i.size) vs 0 w (fun j hj => by simpa using (hth j hj).1) (fun j hj => by simpa using (hth j hj).2) h1
  simp only [Nat.add_zero] at hst
  have hc := hcells w rfl
  rcases hk with ⟨e', hk⟩ | hk <;> simp [Builtin.append_, run_underlying ht, run_underlying hk, sizeOf, typeInfo, hi, hlen, hroom, hc, Addr.add_mid, hst]
theorem run_app_grow {t tx ty e : TypeId} {i : TypeInfo} {z : Value} (ht : P.underlying t = some (.slice e)) (hk : (∃ e', P.underlying tx = some (.slice e')) ∨ P.underlying tx = some .string) (hi : P.info? e = some i) (hz : i.zero = some z) {x s : Value} {n sLen sCap : Nat} {base : Option Addr} {vs olds : List Value} {w : World}
    (hs : s = .slice base sLen sCap)
    (hlen : ∀ w, (Builtin.lenOf x).run P w = .ok n w) (hcells : ∀ W : World, W.heap = w.heap → (Builtin.firstCells i.size n x).run P W = .ok vs.toArray W)
    (holds : ∀ W : World, W.heap = w.heap → (Builtin.firstCells i.size sLen s).run P W = .ok olds.toArray W) (hg : sCap < sLen + n) (h63 : ((sLen + n : Nat) : Int) ≤ 9223372036854775807) (hfit : (sLen + n) * i.bytes ≤ 140737488355328) :
    (Builtin.append_ #[t, tx] ty #[s, x]).run P w = .ok (.slice (some ⟨w.heap.size, 0, none⟩) (sLen + n) (grownCap w (sLen + n) sCap e))
        (w.drew.alloc (.cells (olds.toArray ++ vs.toArray ++ Builtin.zeroCells z.cells (grownCap w (sLen + n) sCap e - (sLen + n))) e)) := by
  subst hs
  have hn : ¬ (sLen + n ≤ sCap) := by omega
  have h63' : ¬ (9223372036854775807 < ((sLen : Int) + (n : Int))) := by omega
  have h48' : ¬ (281474976710656 < Builtin.nextslicecap (sLen + n) sCap * i.bytes) := by have := growslice_fits (old := sCap) hg hfit; omega
  have hc := hcells w.drew rfl
  have hc2 := holds w.drew rfl
  rcases hk with ⟨e', hk⟩ | hk <;> simp [Builtin.append_, run_underlying ht, run_underlying hk, sizeOf, typeInfo, zeroValue, hi, hz, hlen, hn, h63', h48', Question.forced, hc, hc2, newRow, grownCap]
  all_goals (congr 2; apply Array.ext'; simp)
/-- May this be appended from? -/
def srcType (P : Program) (tx : TypeId) : Bool :=
  match P.underlying tx with
  | some (.slice _) => true
  | some .string => true
  | _ => false
theorem srcType_ok {tx : TypeId} (h : srcType P tx = true) : (∃ e', P.underlying tx = some (.slice e')) ∨ P.underlying tx = some .string := by
  unfold srcType at h
  split at h
  · rename_i e hu; exact .inl ⟨e, hu⟩
  · rename_i hu; exact .inr hu
  · cases h
/-- Is it a row that may be written? -/
def notSym (C : Cs) : Bool := match C.isSym with
  | true => false
  | false => true
theorem notSym_ok {C : Cs} (h : notSym C = true) : C.isSym = false := by
  unfold notSym at h
  split at h
  · cases h
  · assumption
/-- How an append goes: 0: nothing is appended; 1: there is room; 2: a new row, the old one stays; 3: a new row, the old one is given up. -/
def growRow (P : Program) (e : TypeId) (o l sz : Nat) (inPlace : Bool) (vs : List Value) : Ao → Option (Ao × Bool)
  | .row C te g => match inPlace with
    | true => match Nat.ble (o + l * sz + vs.length) C.len with
      | true => match Cs.put 64 C (o + l * sz) vs with
        | some C' => some (.row C' te g, true)
        | none => none
      | false => none
    | false => match Nat.beq (C.sub o (l * sz)).length (l * sz) with
      | true => match g with
        | true => match szOf P te with
          | some z => match (Nat.beq z sz && notSym C) && Nat.beq te e with
            | true => some (.row (.leaf (C.sub o (l * sz) ++ vs)) e true, true)
            | false => none
          | none => none
        | false => some (.row (.leaf (C.sub o (l * sz) ++ vs)) e true, false)
      | false => none
  | _ => none
structure AppT where
  e : TypeId
  i : TypeInfo
  z : Value
def appT (P : Program) (t tx : TypeId) : Option AppT :=
  match srcType P tx with
  | true => match P.underlying t with
    | some (.slice e) => match P.info? e with
      | some i => match i.zero with
        | some z => match flat z && (Nat.beq z.cells.size i.size && Nat.blt 0 i.size) with
          | true => some ⟨e, i, z⟩
          | false => none
        | none => none
      | none => none
    | _ => none
  | false => none
theorem appT_ok [Env] {t tx : TypeId} {A : AppT} (h : appT P t tx = some A) : ((∃ e', P.underlying tx = some (.slice e')) ∨ P.underlying tx = some .string) ∧ P.underlying t = some (.slice A.e) ∧ P.info? A.e = some A.i ∧ A.i.zero = some A.z ∧ A.z.cells.size = A.i.size ∧ 0 < A.i.size := by
  unfold appT at h
  split at h
  · rename_i hs
    split at h
    · rename_i e hu
      split at h
      · rename_i i hi
        split at h
        · rename_i z hz
          split at h
          · rename_i hb
            simp only [Option.some.injEq] at h; subst h
            simp only [Bool.and_eq_true] at hb
            exact ⟨srcType_ok hs, hu, hi, hz, Nat.of_beq hb.2.1, Nat.le_of_ble_eq_true hb.2.2⟩
          · cases h
        · cases h
      · cases h
    · cases h
  · cases h
/-- Small enough for any machine. -/
def fits (n bytes : Nat) : Bool := Nat.ble n (2 ^ 40) && Nat.ble (n * bytes) (2 ^ 46)
def gd {α : Type} (b : Bool) (m : Comp α) : Comp α := fun c h => match b with
  | true => m c h
  | false => none
def br {α : Type} (b : Bool) (m n : Comp α) : Comp α := fun c h => match b with
  | true => m c h
  | false => n c h
theorem gd_some {α : Type} {b : Bool} {m : Comp α} {c : Nat} {h : Tr} {o : Out α} (he : gd b m c h = some o) : b = true ∧ m c h = some o := by
  cases b with
  | true => exact ⟨rfl, he⟩
  | false => cases he
theorem br_some {α : Type} {b : Bool} {m n : Comp α} {c : Nat} {h : Tr} {o : Out α} (he : br b m n c h = some o) : (b = true ∧ m c h = some o) ∨ (b = false ∧ n c h = some o) := by
  cases b with
  | true => exact .inl ⟨rfl, he⟩
  | false => exact .inr ⟨rfl, he⟩
theorem Local.gd {α : Type} {b : Bool} {m : Comp α} (h : Local m) : Local (gd b m) := by
  cases b with
  | true => exact h
  | false => exact Local.fail
theorem Local.br {α : Type} {b : Bool} {m n : Comp α} (h : Local m) (k : Local n) : Local (br b m n) := by
  cases b with
  | true => exact h
  | false => exact k
def evAppend (P : Program) (t tx : TypeId) (s x : Value) : Comp Value :=
  match appT P t tx with
  | none => fail
  | some A => match lenV x with
    | none => fail
    | some n => match s with
      | .slice none 0 0 => match n with
        | 0 => match x with
          | .slice _ _ _ => ret s
          | _ => fail
        | n + 1 => bind (srcCells A.i.size (n + 1) x) fun vs => gd (Nat.beq vs.length ((n + 1) * A.i.size) && fits (n + 1) A.i.bytes)
            (bind (nw (.row (.leaf vs) A.e true)) fun k => ret (.slice (some ⟨k, 0, none⟩) (n + 1) (n + 1)))
      | .slice (some ⟨i, o, none⟩) l c => match n with
        | 0 => match x with
          | .slice _ _ _ => ret s
          | _ => fail
        | n + 1 => bind (srcCells A.i.size (n + 1) x) fun vs => gd (Nat.beq vs.length ((n + 1) * A.i.size) && (fits (l + (n + 1)) A.i.bytes && ones vs))
            (br (Nat.ble (l + (n + 1)) c)
              (bind (rd i) fun ao => bind (ofOpt (growRow P A.e o l A.i.size true vs ao)) fun r => bind (wr i (some r.1)) fun _ => ret (.slice (some ⟨i, o, none⟩) (l + (n + 1)) c))
              (bind (rd i) fun ao => bind (ofOpt (growRow P A.e o l A.i.size false vs ao)) fun r => br r.2
                (bind (wr i none) fun _ => bind (nw r.1) fun k => ret (.slice (some ⟨k, 0, none⟩) (l + (n + 1)) (l + (n + 1))))
                (bind (nw r.1) fun k => ret (.slice (some ⟨k, 0, none⟩) (l + (n + 1)) (l + (n + 1))))))
      | _ => fail
end Go.Proofs.Ytdpmjghdmpaehaa.ev
