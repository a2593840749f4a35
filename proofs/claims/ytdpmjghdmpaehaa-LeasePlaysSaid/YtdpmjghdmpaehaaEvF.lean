/-
  More operations: rows made, appended to and copied; comparisons with nothing; lengths. Conditions: none.
-/
import Derived.Test.YtdpmjghdmpaehaaEvE
import Derived.Laws.Append
namespace Go.Proofs.Ytdpmjghdmpaehaa.ev
set_option linter.unusedVariables false
set_option linter.unusedSimpArgs false
variable {P : Program} {N : Nat} {β : Mp}
/-- A row of zeros: one value so many times, where that is one cell. -/
def zeroCs (P : Program) (elem : TypeId) (n : Nat) : Option Cs :=
  match (P.info? elem).bind (·.zero) with
  | some z => match flat z && (z.oneCell' && Nat.blt 16 n) with
    | true => some (.rep n z)
    | false => match zeros P elem n with
      | some zs => match zs.all flat with
        | true => some (.leaf zs)
        | false => none
      | none => none
  | none => none
theorem zeroCs_ok [Env] {elem : TypeId} {n : Nat} {C : Cs} (h : zeroCs P elem n = some C) : ∃ zs, zeros P elem n = some zs ∧ zs.all flat = true ∧ C.ok ∧ C.list = zs := by
  unfold zeroCs at h
  split at h
  · rename_i z hz
    split at h
    · rename_i hb
      simp only [Bool.and_eq_true] at hb
      simp only [Option.some.injEq] at h; subst h
      have hn := blt_true hb.2.2
      have hc := cells_one hb.2.1
      have e : zeros P elem n = some (List.replicate n z) := by
        cases n with
        | zero => omega
        | succ n =>
          simp only [zeros, hz, hb.1, hc]
          congr 1
          apply List.ext_getElem
          · simp
          · intro i h1 h2
            simp [Nat.mod_one]
      refine ⟨_, e, ?_, trivial, rfl⟩
      rw [List.all_eq_true]; intro v hv
      rw [List.eq_of_mem_replicate hv]; exact hb.1
    · split at h
      · rename_i zs hzs
        split at h
        · rename_i hf
          simp only [Option.some.injEq] at h; subst h
          exact ⟨zs, hzs, hf, trivial, rfl⟩
        · cases h
      · cases h
  · cases h
def evMake (P : Program) (t : TypeId) : Value → Value → Comp Value
  | .int .i64 (.ofNat l), .int .i64 (.ofNat c) => match P.underlying t with
    | some (.slice elem) => match P.info? elem with
      | some i => match Nat.ble l c && (Nat.ble c (2 ^ 40) && Nat.ble (i.bytes * c) (2 ^ 40)) with
        | true => match zeroCs P elem (c * i.size) with
          | some C => evNew C elem fun j => .slice (some ⟨j, 0, none⟩) l c
          | none => fail
        | false => fail
      | none => fail
    | _ => fail
  | _, _ => fail
theorem wrap_i64_nat {n : Nat} (h : n ≤ 2 ^ 40) : IntKind.i64.wrap (n : Int) = n := IntWalk.i64_in _ (by omega)
theorem evMake_ok [Env] {t : TypeId} {l l' c c' : Value} (hl : VR β l l') (hc : VR β c c') : RunS P N β (evMake P t l c) (Instr.makeSlice t l' c') := by
  unfold evMake
  split
  · rename_i l c
    rw [hl.int_eq, hc.int_eq]
    split
    · rename_i elem hu
      split
      · rename_i i hi
        split
        · rename_i hb
          simp only [Bool.and_eq_true] at hb
          obtain ⟨h1, h2, h3⟩ := hb
          have h1 := Nat.le_of_ble_eq_true h1
          have h2 := Nat.le_of_ble_eq_true h2
          have h3 := Nat.le_of_ble_eq_true h3
          split
          · rename_i C hC
            obtain ⟨zs, hz, hfl, hok, hlist⟩ := zeroCs_ok hC
            · refine evNew_ok (vs := zs) (k' := fun b => .slice (some ⟨b, 0, none⟩) l c) hok (by rw [hlist]; exact PW.of_flat hfl) (fun w => ?_) (fun β' i I hi hb _ _ => VR.slNew hi hb _ _ h1)
              have hwl : IntKind.i64.wrap (l : Int) = l := wrap_i64_nat (by omega)
              have hwc : IntKind.i64.wrap (c : Int) = c := wrap_i64_nat h2
              have hbig : ¬ (281474976710656 < (i.bytes : Int) * (c : Int)) := by
                have : ((i.bytes * c : Nat) : Int) ≤ (2 ^ 40 : Nat) := by exact_mod_cast h3
                rw [Int.natCast_mul] at this
                omega
              have hlc : ¬ ((c : Int) < (l : Int)) := by omega
              have hlc' : ¬ (c < l) := by omega
              have hl0 : ¬ ((l : Int) < 0) := by omega
              have hc0 : ¬ ((c : Int) < 0) := by omega
              have hroom : (askRoom (c * i.bytes)).run P w = .ok () w := by unfold askRoom; split <;> rfl
              rcases zeros_run (P := P) hz with ⟨h0, rfl⟩ | ⟨h0, z, hz1, hz2⟩
              · have e0 : (Array.range (c * i.size)) = #[] := by rw [h0]; rfl
                simp [Instr.makeSlice, Sem.run_bind, run_underlying hu, asInt, asIntOf, typeInfo, hi, hwl, hwc, hbig, hlc, hlc', hl0, hc0, hroom, sizeOf, h0, newRow, newObj, Sem.run]
                rw [show Array.range 0 = #[] from rfl]; simp
              · have hz3 := run_zero hz1
                simp [Instr.makeSlice, Sem.run_bind, run_underlying hu, asInt, asIntOf, typeInfo, hi, hwl, hwc, hbig, hlc, hlc', hl0, hc0, hroom, sizeOf, h0, hz3, newRow, newObj, Sem.run, hz2]
          · exact RunS.fail
        · exact RunS.fail
      · exact RunS.fail
    · exact RunS.fail
  · exact RunS.fail
/-! ### Comparisons with nothing -/
def nilEq (P : Program) (t : TypeId) (x y : Value) : Option Bool :=
  match P.underlying t with
  | some (.slice _) => match x, y with
    | .slice none _ _, .slice (some _) _ _ => some false
    | .slice (some _) _ _, .slice none _ _ => some false
    | _, _ => none
  | some (.pointer e) => match x, y with
    | .pointer none, .pointer (some _) => some false
    | .pointer (some _), .pointer none => some false
    | .pointer (some ⟨i, o, none⟩), .pointer (some ⟨j, k, none⟩) => match Nat.beq i j with
      | true => match szOf P e with
        | some (n + 1) => some (Nat.beq o k)
        | _ => none
      | false => none
    | _, _ => none
  | some (.map _ _) => match x, y with
    | .map none, .map (some _) => some false
    | .map (some _), .map none => some false
    | _, _ => none
  | some (.func _ _ _) => match x, y with
    | .nilFunc, .func _ _ _ => some false
    | .func _ _ _, .nilFunc => some false
    | _, _ => none
  | some (.interface _) => match x, y with
    | .nilIface, .iface _ _ => some false
    | .iface _ _, .nilIface => some false
    | _, _ => none
  | _ => none
theorem nilEq_in [Env] {t : TypeId} {x x' y y' : Value} {b : Bool} (hx : VR β x x') (hy : VR β y y') (h : nilEq P t x y = some b) (w : World) (d : Nat) : (Op.equalIn (d + 1) t x' y').run P w = .ok b w := by
  unfold nilEq at h
  split at h
  · rename_i e hu
    split at h
    · cases hx; cases hy <;> (simp only [Option.some.injEq] at h; subst h; simp [Op.equalIn, Sem.run_bind, run_underlying hu])
    · cases hx <;> cases hy <;> (simp only [Option.some.injEq] at h; subst h; simp [Op.equalIn, Sem.run_bind, run_underlying hu])
    · cases h
  · rename_i e hu
    split at h
    · cases hx; cases hy; simp only [Option.some.injEq] at h; subst h
      simp [Op.equalIn, Sem.run_bind, run_underlying hu]
    · cases hx; cases hy; simp only [Option.some.injEq] at h; subst h
      simp [Op.equalIn, Sem.run_bind, run_underlying hu]
    · rename_i i o j k
      split at h
      · rename_i hij
        have := Nat.of_beq hij
        subst this
        split at h
        · rename_i n hn
          simp only [Option.some.injEq] at h; subst h
          cases hx with
          | @ptr _ I _ hI =>
            cases hy with
            | @ptr _ J _ hJ =>
              rw [hI] at hJ; cases hJ
              have hs := run_sizeOf (P := P) hn w
              have e : (({ block := I.blk, off := I.base + o, spot := none } : Addr) == { block := I.blk, off := I.base + k, spot := none }) = Nat.beq o k := by
                rw [Bool.eq_iff_iff]
                simp
              simp [Op.equalIn, Sem.run_bind, run_underlying hu, hs, sameAddr, e]
        · cases h
      · cases h
    · cases h
  · rename_i e1 e2 hu
    split at h
    · cases hx; cases hy; simp only [Option.some.injEq] at h; subst h
      simp [Op.equalIn, Sem.run_bind, run_underlying hu]
    · cases hx; cases hy; simp only [Option.some.injEq] at h; subst h
      simp [Op.equalIn, Sem.run_bind, run_underlying hu]
    · cases h
  · rename_i e1 e2 e3 hu
    split at h
    · cases hx; cases hy; simp only [Option.some.injEq] at h; subst h
      simp [Op.equalIn, Sem.run_bind, run_underlying hu]
    · cases hx; cases hy; simp only [Option.some.injEq] at h; subst h
      simp [Op.equalIn, Sem.run_bind, run_underlying hu]
    · cases h
  · rename_i e1 hu
    split at h
    · cases hx; cases hy; simp only [Option.some.injEq] at h; subst h
      simp [Op.equalIn, Sem.run_bind, run_underlying hu]
    · cases hx; cases hy; simp only [Option.some.injEq] at h; subst h
      simp [Op.equalIn, Sem.run_bind, run_underlying hu]
    · cases h
  · cases h
/-- Is it no comparison that eqGuard looks at? -/
def noGuard : Value → Value → Bool
  | .nilIface, .nilIface => false
  | .agg _, .agg _ => false
  | _, _ => true
def evEq (P : Program) (op : BinOp) (t : TypeId) (x y : Value) : Option Value :=
  match noGuard x y with
  | true => match op with
    | .eql => match nilEq P t x y with
      | some b => some (.bool b)
      | none => none
    | .neq => match nilEq P t x y with
      | some b => some (.bool (!b))
      | none => none
    | _ => none
  | false => none
theorem nilEq_ok [Env] {t : TypeId} {x x' y y' : Value} {b : Bool} (hx : VR β x x') (hy : VR β y y') (h : nilEq P t x y = some b) (w : World) : (Op.equal t x' y').run P w = .ok b w := nilEq_in hx hy h w 9999
/-- Is it no comparison that eqGuard looks at? -/
theorem nilEq_forms [Env] {t : TypeId} {x x' y y' : Value} {b : Bool} (hx : VR β x x') (hy : VR β y y') (h : nilEq P t x y = some b) (w : World) (a1 a2 : Operand) (op : BinOp) (ho : op = .eql ∨ op = .neq) :
    (do eqGuard op t a1 a2 x' y'; binOp op t x' y' : Sem Value).run P w = .ok (.bool (if op = .eql then b else !b)) w := by
  have he := nilEq_ok hx hy h w
  unfold nilEq at h
  rcases ho with rfl | rfl
  all_goals
    split at h <;> (try split at h) <;> first
      | (cases h; done)
      | (cases hx <;> cases hy <;> simp [eqGuard, Go.binOp, Sem.run_bind, he]; done)
theorem evEq_ok [Env] {op : BinOp} {t : TypeId} {x x' y y' : Value} {a1 a2 : Operand} (hx : VR β x x') (hy : VR β y y') : RunS P N β (ofOpt (evEq P op t x y)) (do eqGuard op t a1 a2 x' y'; binOp op t x' y') := by
  refine RunS.opt fun v hv => ?_
  unfold evEq at hv
  split at hv
  · split at hv
    · split at hv
      · rename_i b hb
        simp only [Option.some.injEq] at hv; subst hv
        exact ⟨_, .bool b, fun w => by simpa using nilEq_forms hx hy hb w a1 a2 .eql (.inl rfl)⟩
      · cases hv
    · split at hv
      · rename_i b hb
        simp only [Option.some.injEq] at hv; subst hv
        exact ⟨_, .bool (!b), fun w => by simpa using nilEq_forms hx hy hb w a1 a2 .neq (.inr rfl)⟩
      · cases hv
    · cases hv
  · cases hv
/-- A place in a row that is no row of bytes. -/
def ptrRow (P : Program) (o : Nat) : Ao → Bool
  | .row C te _ => match C.isSym with
    | true => false
    | false => match P.underlying te with
      | some (.int .u8) => false
      | _ => true
  | _ => false
theorem run_sameAddr_ne {w : World} {A B : Addr} {C D : Array Value} {te td : TypeId} (hAB : A.block ≠ B.block) (hA : w.heap[A.block]? = some (.cells C te (0, 0))) (hB : w.heap[B.block]? = some (.cells D td (0, 0))) : (sameAddr A B).run P w = .ok false w := by
  have e2 : (A.block == B.block) = false := by rw [beq_eq_false_iff_ne]; exact hAB
  simp [sameAddr, e2, frozen, noView, viewAt, mayBeOne, stringish, shape, Sem.run, World.frozen?, World.shape?, hA, hB]
/-- Two places in unlike objects are unlike. -/
theorem ptrNe_forms [Env] {t e : TypeId} {n : Nat} {A B : Addr} {w : World} (hu : P.underlying t = some (.pointer e)) (hn : szOf P e = some (n + 1)) (hAB : (sameAddr A B).run P w = .ok false w) (a1 a2 : Operand) (op : BinOp) (ho : op = .eql ∨ op = .neq) :
    (do eqGuard op t a1 a2 (.pointer (some A)) (.pointer (some B)); binOp op t (.pointer (some A)) (.pointer (some B)) : Sem Value).run P w = .ok (.bool (if op = .eql then false else true)) w := by
  have hs := run_sizeOf (P := P) hn w
  have key : ∀ d, (Op.equalIn (d + 1) t (.pointer (some A)) (.pointer (some B))).run P w = .ok false w := fun d => by
    simp [Op.equalIn, Sem.run_bind, run_underlying hu, hs, hAB]
  have he : (Op.equal t (.pointer (some A)) (.pointer (some B))).run P w = .ok false w := key _
  rcases ho with rfl | rfl <;> simp [eqGuard, binOp, Sem.run_bind, he]
def evEqM (P : Program) (op : BinOp) (t : TypeId) (x y : Value) : Comp Value :=
  match x, y with
  | .pointer (some ⟨i, o, none⟩), .pointer (some ⟨j, k, none⟩) => match Nat.beq i j with
    | true => ofOpt (evEq P op t (.pointer (some ⟨i, o, none⟩)) (.pointer (some ⟨j, k, none⟩)))
    | false => match P.underlying t with
      | some (.pointer e) => match szOf P e with
        | some (_ + 1) => match op with
          | .eql => bind (rd i) fun a => bind (rd j) fun b => ofOpt (match ptrRow P o a && ptrRow P k b with | true => some (.bool false) | false => none)
          | .neq => bind (rd i) fun a => bind (rd j) fun b => ofOpt (match ptrRow P o a && ptrRow P k b with | true => some (.bool true) | false => none)
          | _ => fail
        | _ => fail
      | _ => fail
  | x, y => ofOpt (evEq P op t x y)
theorem rd_some {i : Nat} {c : Nat} {h : Tr} {o : Out Ao} (he : rd i c h = some o) : o = ⟨o.a, c, h, bit i, 0⟩ ∧ Tr.get dep h i = some o.a := by
  simp only [ev.rd] at he
  split at he
  · rename_i ao hao
    simp only [Option.some.injEq] at he; subst he
    exact ⟨rfl, hao⟩
  · cases he
theorem ptrRow_fz [Env] {β : Mp} {w : World} {I : Im} {o : Nat} {a : Ao} (hr : ptrRow P o a = true) (ho : ObR P β w I a) : ∃ C te, w.heap[I.blk]? = some (.cells C te (0, 0)) := by
  cases a with
  | map es clk => cases hr
  | iter q0 p0 => cases hr
  | mapIt q0 q1 q2 q3 => cases hr
  | row C te g =>
    obtain ⟨_, _, _, _, _, _, _, _, ho⟩ := ho
    cases hns : C.isSym with
    | true => simp only [ptrRow, hns] at hr; cases hr
    | false =>
      obtain ⟨C', te', fr, h1, h2⟩ := nosym hns ho
      rcases h2.2 with rfl | ⟨_, h2⟩
      · exact ⟨C', te', h1⟩
      · simp only [ptrRow, hns, h2] at hr; cases hr
theorem ptrRow_ro {o : Nat} {a : Ao} (hr : ptrRow P o a = true) : a.ro = false := by
  cases a with
  | row C te g =>
    cases hns : C.isSym with
    | true => simp only [ptrRow, hns] at hr; cases hr
    | false => exact hns
  | _ => rfl
theorem evEqM_ok [Env] {op : BinOp} {t : TypeId} {x x' y y' : Value} {a1 a2 : Operand} (hx : VR β x x') (hy : VR β y y') : RunS P N β (evEqM P op t x y) (do eqGuard op t a1 a2 x' y'; binOp op t x' y') := by
  unfold evEqM
  split
  · rename_i i o j k
    split
    · exact evEq_ok hx hy
    · rename_i hij
      split
      · rename_i e hu
        split
        · rename_i n hn
          have key : ∀ (b : Bool), (op = .eql ∧ b = false) ∨ (op = .neq ∧ b = true) → RunS P N β (bind (rd i) fun a => bind (rd j) fun d => ofOpt (match ptrRow P o a && ptrRow P k d with | true => some (.bool b) | false => none)) (do eqGuard op t a1 a2 x' y'; binOp op t x' y') := by
            intro b hb c h q w hq hs hN hfr
            obtain ⟨o1, q1, ho1, hq1, rfl⟩ := bind_some hq
            obtain ⟨o2, q2, ho2, hq2, rfl⟩ := bind_some hq1
            obtain ⟨r, hr, rfl⟩ := ofOpt_some hq2
            obtain ⟨r1, g1⟩ := rd_some ho1
            rw [r1] at ho2
            obtain ⟨r2, g2⟩ := rd_some ho2
            split at hr
            rotate_left
            · cases hr
            rename_i hrows
            simp only [Bool.and_eq_true] at hrows
            simp only [Option.some.injEq] at hr; subst hr
            cases hx with
            | @ptr _ I _ hI =>
              cases hy with
              | @ptr _ J _ hJ =>
                have hne : i ≠ j := by
                  rintro rfl
                  rw [Nat.beq_refl] at hij; cases hij
                have hb' := hs.far (ptrRow_ro hrows.2) g1 g2 hI hJ hne
                obtain ⟨I', k1, _, _, k2⟩ := hs.obj i _ g1
                rw [hI] at k1; cases k1
                obtain ⟨J', k3, _, _, k4⟩ := hs.obj j _ g2
                rw [hJ] at k3; cases k3
                obtain ⟨C, te, f1⟩ := ptrRow_fz hrows.1 k2
                obtain ⟨D, td, f2⟩ := ptrRow_fz hrows.2 k4
                have hrun := ptrNe_forms (P := P) (A := ⟨I.blk, I.base + o, none⟩) (B := ⟨J.blk, J.base + k, none⟩) hu hn (run_sameAddr_ne hb' f1 f2) a1 a2 op (by rcases hb with ⟨h, _⟩ | ⟨h, _⟩ <;> simp [h])
                refine ⟨.bool b, w, β, ?_, ?_, ?_, .bool b, Keep.refl _ _⟩
                · rcases hb with ⟨rfl, rfl⟩ | ⟨rfl, rfl⟩
                  · simpa using hrun
                  · simpa using hrun
                · rw [r2]; exact Ext.refl _ _ _
                · rw [r2]; exact hs
          split
          · exact key false (.inl ⟨rfl, rfl⟩)
          · exact key true (.inr ⟨rfl, rfl⟩)
          · exact RunS.fail
        · exact RunS.fail
      · exact RunS.fail
  · exact evEq_ok hx hy
/-! ### Lengths -/
def evLen (P : Program) (t : TypeId) : Value → Comp Value
  | .slice (some ⟨_, _, none⟩) n _ => match P.underlying t with
    | some (.slice _) => ret (.int .i64 n)
    | _ => fail
  | .agg _ => match P.underlying t with
    | some (.array n _) => ret (.int .i64 n)
    | _ => fail
  | .pointer (some _) => match P.underlying t with
    | some (.array n _) => ret (.int .i64 n)
    | _ => fail
  | .map (some i) => match P.underlying t with
    | some (.map _ _) => bind (rd i) fun ao => ofOpt (match ao with | .map es _ => some (.int .i64 es.length) | _ => none)
    | _ => fail
  | _ => fail
theorem evLen_ok [Env] {t ty : TypeId} {x x' : Value} (hx : VR β x x') : RunS P N β (evLen P t x) (Builtin.len_ #[t] ty #[x']) := by
  cases hx with
  | sl o l c c' hβ h1 h2 h3 h4 =>
    simp only [evLen]
    split
    · rename_i e hu
      exact RunS.pure (.int .i64 l) (fun w => by simp [Builtin.len_, Sem.run_bind, run_underlying hu, goInt])
    · exact RunS.fail
  | agg h1 h2 =>
    simp only [evLen]
    split
    · rename_i n e hu
      exact RunS.pure (.int .i64 n) (fun w => by simp [Builtin.len_, Sem.run_bind, run_underlying hu, goInt])
    · exact RunS.fail
  | ptr o hβ =>
    simp only [evLen]
    split
    · rename_i n e hu
      exact RunS.pure (.int .i64 n) (fun w => by simp [Builtin.len_, Sem.run_bind, run_underlying hu, goInt])
    · exact RunS.fail
  | @map i I hβ =>
    simp only [evLen]
    split
    · rename_i k e hu
      refine RunS.rd fun ao c h q w hq hao hs hN hfr => ?_
      obtain ⟨v, hv, rfl⟩ := ofOpt_some hq
      obtain ⟨I', hI, hN', hlt, hob⟩ := hs.obj i ao hao
      rw [hβ] at hI; cases hI
      cases ao with
      | row cs te g => cases hv
      | iter q0 p0 => cases hv
      | mapIt q0 q1 q2 q3 => cases hv
      | map es clk =>
        obtain ⟨es', h1, h2, h3, h4⟩ := hob
        simp only [Option.some.injEq] at hv; subst hv
        refine Does.val hs (.int .i64 es.length) ?_
        simp [Builtin.len_, Sem.run_bind, run_underlying hu, goInt, getObj, Sem.run, h1, h3]
    · exact RunS.fail
  | _ => exact RunS.fail
end Go.Proofs.Ytdpmjghdmpaehaa.ev
