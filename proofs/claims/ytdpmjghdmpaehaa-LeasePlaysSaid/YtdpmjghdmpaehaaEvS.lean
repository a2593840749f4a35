/-
  Numbers that are not looked into: what sums and comparisons of them come to is listed, each entry with its proof. Conditions: none.
-/
import Derived.Test.YtdpmjghdmpaehaaEvN
namespace Go.Proofs.Ytdpmjghdmpaehaa.ev
set_option linter.unusedVariables false
set_option linter.unusedSimpArgs false
def kc : IntKind → Nat
  | .i8 => 0 | .i16 => 1 | .i32 => 2 | .i64 => 3 | .u8 => 4 | .u16 => 5 | .u32 => 6 | .u64 => 7
theorem kc_inj {a b : IntKind} (h : kc a = kc b) : a = b := by cases a <;> cases b <;> first | rfl | cases h
def bc : BinOp → Nat
  | .add => 0 | .sub => 1 | .mul => 2 | .quo => 3 | .rem => 4 | .and => 5 | .or => 6 | .xor => 7 | .shl => 8 | .shr => 9 | .andNot => 10
  | .eql => 11 | .neq => 12 | .lss => 13 | .leq => 14 | .gtr => 15 | .geq => 16
theorem bc_inj {a b : BinOp} (h : bc a = bc b) : a = b := by cases a <;> cases b <;> first | rfl | cases h
/-- One and the same number, letter for letter. -/
def sameV : Value → Value → Bool
  | .chan (some a), .chan (some b) => Nat.beq a b
  | .bool true, .bool true => true
  | .bool false, .bool false => true
  | .int k (.ofNat n), .int l (.ofNat m) => Nat.beq (kc k) (kc l) && Nat.beq n m
  | .int k (.negSucc n), .int l (.negSucc m) => Nat.beq (kc k) (kc l) && Nat.beq n m
  | _, _ => false
theorem sameV_eq {a b : Value} (h : sameV a b = true) : a = b := by
  unfold sameV at h
  split at h
  · rw [Nat.of_beq h]
  · rfl
  · rfl
  · simp only [Bool.and_eq_true] at h
    rw [kc_inj (Nat.of_beq h.1), Nat.of_beq h.2]
  · simp only [Bool.and_eq_true] at h
    rw [kc_inj (Nat.of_beq h.1), Nat.of_beq h.2]
  · cases h
def samesV : List Value → List Value → Bool
  | [], [] => true
  | a :: l, b :: m => match sameV a b with
    | true => samesV l m
    | false => false
  | _, _ => false
theorem samesV_eq : ∀ {l m : List Value}, samesV l m = true → l = m
  | [], [], _ => rfl
  | [], _ :: _, h => by cases h
  | _ :: _, [], h => by cases h
  | a :: l, b :: m, h => by
    simp only [samesV] at h
    split at h
    · rename_i hb; rw [sameV_eq hb, samesV_eq h]
    · cases h
/-- An entry: an operation on two numbers, or a conversion of one. -/
inductive Ent where
  | bin (op : BinOp) (x y r : Value)
  | conv (k : IntKind) (x r : Value)
  | len (str : Bool) (x r : Value)
  | mm (mx : Bool) (x y r : Value)
  | eqs (neq : Bool) (t : TypeId) (x y : List Value) (b : Bool)
  | mm3 (mx : Bool) (x y z r : Value)
  | slen (q d : Nat) (r : Value)
def sameB : Bool → Bool → Bool
  | true, true => true
  | false, false => true
  | _, _ => false
def findLen (s : Bool) (x : Value) : List Ent → Option Value
  | [] => none
  | .len s' x' r :: l => match sameB s s' && sameV x x' with
    | true => some r
    | false => findLen s x l
  | _ :: l => findLen s x l
def findSl (q d : Nat) : List Ent → Option Value
  | [] => none
  | .slen q' d' r :: l => match Nat.beq q q' && Nat.beq d d' with
    | true => some r
    | false => findSl q d l
  | _ :: l => findSl q d l
def findMm (mx : Bool) (x y : Value) : List Ent → Option Value
  | [] => none
  | .mm mx' x' y' r :: l => match sameB mx mx' && (sameV x x' && sameV y y') with
    | true => some r
    | false => findMm mx x y l
  | _ :: l => findMm mx x y l
def findBin (op : BinOp) (x y : Value) : List Ent → Option Value
  | [] => none
  | .bin op' x' y' r :: l => match Nat.beq (bc op) (bc op') && (sameV x x' && sameV y y') with
    | true => some r
    | false => findBin op x y l
  | _ :: l => findBin op x y l
def findConv (k : IntKind) (x : Value) : List Ent → Option Value
  | [] => none
  | .conv k' x' r :: l => match Nat.beq (kc k) (kc k') && sameV x x' with
    | true => some r
    | false => findConv k x l
  | _ :: l => findConv k x l
def findMm3 (mx : Bool) (x y z : Value) : List Ent → Option Value
  | [] => none
  | .mm3 mx' x' y' z' r :: l => match sameB mx mx' && (sameV x x' && (sameV y y' && sameV z z')) with
    | true => some r
    | false => findMm3 mx x y z l
  | _ :: l => findMm3 mx x y z l
def findEqs (neq : Bool) (t : TypeId) (x y : List Value) : List Ent → Option Value
  | [] => none
  | .eqs neq' t' x' y' b :: l => match sameB neq neq' && (Nat.beq t t' && (samesV x x' && samesV y y')) with
    | true => some (.bool b)
    | false => findEqs neq t x y l
  | _ :: l => findEqs neq t x y l
def tabOf (P : Program) (l : List Ent) : TabF := fun o xs =>
  match o.op with
  | .binOp op t _ _ _ => match xs with
    | [.agg c, .agg d] => match op with
      | .eql => findEqs false t c.toList d.toList l
      | .neq => findEqs true t c.toList d.toList l
      | _ => none
    | [x, y] => findBin op x y l
    | _ => none
  | .convert s d _ => match xs with
    | [x] => match P.underlying s with
      | some _ => match P.underlying d with
        | some (.int k) => findConv k x l
        | _ => none
      | none => none
    | _ => none
  | .call c => match c.callee, c.argTypes.toList, xs with
    | .builtin .len, [t], [x] => match P.underlying t with
      | some (.slice _) => match x with
        | .slice (some ⟨_, _, some (q + 1)⟩) _ d => findSl q d l
        | x => findLen false x l
      | some .string => findLen true x l
      | _ => none
    | .builtin .min, _, [x, y] => findMm false x y l
    | .builtin .max, _, [x, y] => findMm true x y l
    | .builtin .min, _, [x, y, z] => findMm3 false x y z l
    | .builtin .max, _, [x, y, z] => findMm3 true x y z l
    | _, _, _ => none
  | _ => none
theorem findBin_ok {op : BinOp} {x y v : Value} : ∀ {l : List Ent}, findBin op x y l = some v → Ent.bin op x y v ∈ l
  | [], h => by cases h
  | .bin op' x' y' r :: l, h => by
    simp only [findBin] at h
    split at h
    · rename_i hb
      simp only [Option.some.injEq] at h; subst h
      simp only [Bool.and_eq_true] at hb
      rw [bc_inj (Nat.of_beq hb.1), sameV_eq hb.2.1, sameV_eq hb.2.2]
      exact List.mem_cons_self ..
    · exact List.mem_cons_of_mem _ (findBin_ok h)
  | .conv k' x' r :: l, h => List.mem_cons_of_mem _ (findBin_ok (by simpa only [findBin] using h))
  | .len s' x' r :: l, h => List.mem_cons_of_mem _ (findBin_ok (by simpa only [findBin] using h))
  | .mm m x' y' r :: l, h => List.mem_cons_of_mem _ (findBin_ok (by simpa only [findBin] using h))
  | .eqs n t' x' y' b :: l, h => List.mem_cons_of_mem _ (findBin_ok (by simpa only [findBin] using h))
  | .mm3 m x' y' z' r :: l, h => List.mem_cons_of_mem _ (findBin_ok (by simpa only [findBin] using h))
  | .slen q' d' r :: l, h => List.mem_cons_of_mem _ (findBin_ok (by simpa only [findBin] using h))
theorem findConv_ok {k : IntKind} {x v : Value} : ∀ {l : List Ent}, findConv k x l = some v → Ent.conv k x v ∈ l
  | [], h => by cases h
  | .conv k' x' r :: l, h => by
    simp only [findConv] at h
    split at h
    · rename_i hb
      simp only [Option.some.injEq] at h; subst h
      simp only [Bool.and_eq_true] at hb
      rw [kc_inj (Nat.of_beq hb.1), sameV_eq hb.2]
      exact List.mem_cons_self ..
    · exact List.mem_cons_of_mem _ (findConv_ok h)
  | .bin op' x' y' r :: l, h => List.mem_cons_of_mem _ (findConv_ok (by simpa only [findConv] using h))
  | .len s' x' r :: l, h => List.mem_cons_of_mem _ (findConv_ok (by simpa only [findConv] using h))
  | .mm m x' y' r :: l, h => List.mem_cons_of_mem _ (findConv_ok (by simpa only [findConv] using h))
  | .eqs n t' x' y' b :: l, h => List.mem_cons_of_mem _ (findConv_ok (by simpa only [findConv] using h))
  | .mm3 m x' y' z' r :: l, h => List.mem_cons_of_mem _ (findConv_ok (by simpa only [findConv] using h))
  | .slen q' d' r :: l, h => List.mem_cons_of_mem _ (findConv_ok (by simpa only [findConv] using h))
theorem sameB_eq' {a b : Bool} (h : sameB a b = true) : a = b := by cases a <;> cases b <;> first | rfl | cases h
theorem findEqs_ok {neq : Bool} {t : TypeId} {x y : List Value} {v : Value} : ∀ {l : List Ent}, findEqs neq t x y l = some v → ∃ b, v = .bool b ∧ Ent.eqs neq t x y b ∈ l
  | [], h => by cases h
  | .eqs neq' t' x' y' b :: l, h => by
    simp only [findEqs] at h
    split at h
    · rename_i hb
      simp only [Option.some.injEq] at h; subst h
      simp only [Bool.and_eq_true] at hb
      refine ⟨b, rfl, ?_⟩
      rw [sameB_eq' hb.1, Nat.of_beq hb.2.1, samesV_eq hb.2.2.1, samesV_eq hb.2.2.2]
      exact List.mem_cons_self ..
    · obtain ⟨b', h1, h2⟩ := findEqs_ok h
      exact ⟨b', h1, List.mem_cons_of_mem _ h2⟩
  | .bin op' x' y' r :: l, h => let ⟨b, h1, h2⟩ := findEqs_ok (by simpa only [findEqs] using h); ⟨b, h1, List.mem_cons_of_mem _ h2⟩
  | .conv k' x' r :: l, h => let ⟨b, h1, h2⟩ := findEqs_ok (by simpa only [findEqs] using h); ⟨b, h1, List.mem_cons_of_mem _ h2⟩
  | .len s' x' r :: l, h => let ⟨b, h1, h2⟩ := findEqs_ok (by simpa only [findEqs] using h); ⟨b, h1, List.mem_cons_of_mem _ h2⟩
  | .mm m x' y' r :: l, h => let ⟨b, h1, h2⟩ := findEqs_ok (by simpa only [findEqs] using h); ⟨b, h1, List.mem_cons_of_mem _ h2⟩
  | .mm3 m x' y' z' r :: l, h => let ⟨b, h1, h2⟩ := findEqs_ok (by simpa only [findEqs] using h); ⟨b, h1, List.mem_cons_of_mem _ h2⟩
  | .slen q' d' r :: l, h => let ⟨b, h1, h2⟩ := findEqs_ok (by simpa only [findEqs] using h); ⟨b, h1, List.mem_cons_of_mem _ h2⟩
theorem sameB_eq {a b : Bool} (h : sameB a b = true) : a = b := by cases a <;> cases b <;> first | rfl | cases h
theorem findLen_ok {s : Bool} {x v : Value} : ∀ {l : List Ent}, findLen s x l = some v → Ent.len s x v ∈ l
  | [], h => by cases h
  | .len s' x' r :: l, h => by
    simp only [findLen] at h
    split at h
    · rename_i hb
      simp only [Option.some.injEq] at h; subst h
      simp only [Bool.and_eq_true] at hb
      rw [sameB_eq hb.1, sameV_eq hb.2]
      exact List.mem_cons_self ..
    · exact List.mem_cons_of_mem _ (findLen_ok h)
  | .bin op' x' y' r :: l, h => List.mem_cons_of_mem _ (findLen_ok (by simpa only [findLen] using h))
  | .conv k' x' r :: l, h => List.mem_cons_of_mem _ (findLen_ok (by simpa only [findLen] using h))
  | .mm m x' y' r :: l, h => List.mem_cons_of_mem _ (findLen_ok (by simpa only [findLen] using h))
  | .eqs n t' x' y' b :: l, h => List.mem_cons_of_mem _ (findLen_ok (by simpa only [findLen] using h))
  | .mm3 m x' y' z' r :: l, h => List.mem_cons_of_mem _ (findLen_ok (by simpa only [findLen] using h))
  | .slen q' d' r :: l, h => List.mem_cons_of_mem _ (findLen_ok (by simpa only [findLen] using h))
theorem findMm_ok {mx : Bool} {x y v : Value} : ∀ {l : List Ent}, findMm mx x y l = some v → Ent.mm mx x y v ∈ l
  | [], h => by cases h
  | .mm m x' y' r :: l, h => by
    simp only [findMm] at h
    split at h
    · rename_i hb
      simp only [Option.some.injEq] at h; subst h
      simp only [Bool.and_eq_true] at hb
      rw [sameB_eq hb.1, sameV_eq hb.2.1, sameV_eq hb.2.2]
      exact List.mem_cons_self ..
    · exact List.mem_cons_of_mem _ (findMm_ok h)
  | .bin op' x' y' r :: l, h => List.mem_cons_of_mem _ (findMm_ok (by simpa only [findMm] using h))
  | .conv k' x' r :: l, h => List.mem_cons_of_mem _ (findMm_ok (by simpa only [findMm] using h))
  | .len s' x' r :: l, h => List.mem_cons_of_mem _ (findMm_ok (by simpa only [findMm] using h))
  | .eqs n t' x' y' b :: l, h => List.mem_cons_of_mem _ (findMm_ok (by simpa only [findMm] using h))
  | .mm3 m x' y' z' r :: l, h => List.mem_cons_of_mem _ (findMm_ok (by simpa only [findMm] using h))
  | .slen q' d' r :: l, h => List.mem_cons_of_mem _ (findMm_ok (by simpa only [findMm] using h))
theorem findMm3_ok {mx : Bool} {x y z v : Value} : ∀ {l : List Ent}, findMm3 mx x y z l = some v → Ent.mm3 mx x y z v ∈ l
  | [], h => by cases h
  | .mm3 mx' x' y' z' r :: l, h => by
    simp only [findMm3] at h
    split at h
    · rename_i hb
      simp only [Option.some.injEq] at h; subst h
      simp only [Bool.and_eq_true] at hb
      rw [sameB_eq hb.1, sameV_eq hb.2.1, sameV_eq hb.2.2.1, sameV_eq hb.2.2.2]
      exact List.mem_cons_self ..
    · exact List.mem_cons_of_mem _ (findMm3_ok h)
  | .bin op' x' y' r :: l, h => List.mem_cons_of_mem _ (findMm3_ok (by simpa only [findMm3] using h))
  | .conv k' x' r :: l, h => List.mem_cons_of_mem _ (findMm3_ok (by simpa only [findMm3] using h))
  | .len s' x' r :: l, h => List.mem_cons_of_mem _ (findMm3_ok (by simpa only [findMm3] using h))
  | .mm m x' y' r :: l, h => List.mem_cons_of_mem _ (findMm3_ok (by simpa only [findMm3] using h))
  | .eqs n t' x' y' b :: l, h => List.mem_cons_of_mem _ (findMm3_ok (by simpa only [findMm3] using h))
  | .slen q' d' r :: l, h => List.mem_cons_of_mem _ (findMm3_ok (by simpa only [findMm3] using h))
theorem findSl_ok {q d : Nat} {v : Value} : ∀ {l : List Ent}, findSl q d l = some v → Ent.slen q d v ∈ l
  | [], h => by cases h
  | .slen q' d' r :: l, h => by
    simp only [findSl] at h
    split at h
    · rename_i hb
      simp only [Option.some.injEq] at h; subst h
      simp only [Bool.and_eq_true] at hb
      rw [Nat.of_beq hb.1, Nat.of_beq hb.2]
      exact List.mem_cons_self ..
    · exact List.mem_cons_of_mem _ (findSl_ok h)
  | .bin op' x' y' r :: l, h => List.mem_cons_of_mem _ (findSl_ok (by simpa only [findSl] using h))
  | .conv k' x' r :: l, h => List.mem_cons_of_mem _ (findSl_ok (by simpa only [findSl] using h))
  | .len s' x' r :: l, h => List.mem_cons_of_mem _ (findSl_ok (by simpa only [findSl] using h))
  | .mm m x' y' r :: l, h => List.mem_cons_of_mem _ (findSl_ok (by simpa only [findSl] using h))
  | .eqs n t' x' y' b :: l, h => List.mem_cons_of_mem _ (findSl_ok (by simpa only [findSl] using h))
  | .mm3 m x' y' z' r :: l, h => List.mem_cons_of_mem _ (findSl_ok (by simpa only [findSl] using h))
section
variable [Env]
def real : Value → Value
  | .chan (some j) => Env.E j
  | v => v
def Num (v : Value) : Prop := ∃ k n, v = .int k n
def NumB (v : Value) : Prop := (∃ k n, v = .int k n) ∨ ∃ b, v = .bool b
/-- What an entry hands on may be handed on. -/
def Good' (r : Value) : Prop := (∃ b, r = .bool b) ∨ (∃ j, r = .chan (some j) ∧ Num (Env.E j)) ∨ Num r
def pick2 (mx : Bool) (a b : Int) : Int := if mx = true then (if b > a then b else a) else (if b < a then b else a)
def opOf (neq : Bool) : BinOp := match neq with
  | true => .neq
  | false => .eql
def EntOK (P : Program) : Ent → Prop
  | .bin op x y r => Num (real x) ∧ Num (real y) ∧ Good' r ∧ ∀ t w, (Go.binOp op t (real x) (real y)).run P w = .ok (real r) w
  | .conv k x r => ∃ l n, real x = .int l n ∧ Good' r ∧ real r = .int k (k.wrap n)
  | .len s x r => ∃ j n, x = .chan (some j) ∧ ((s = false ∧ ∃ a c, Env.E j = .slice a n c) ∨ (s = true ∧ ∃ q : ByteArray, Env.E j = .string q ∧ n = q.size)) ∧ Good' r ∧ real r = .int .i64 (n : Int)
  | .mm mx x y r => ∃ k a b, real x = .int k a ∧ real y = .int k b ∧ Good' r ∧ real r = .int k (if mx = true then (if b > a then b else a) else (if b < a then b else a))
  | .eqs neq t x y b => (∀ v ∈ x, NumB (real v)) ∧ (∀ v ∈ y, NumB (real v)) ∧ ∀ a1 a2 w, (do eqGuard (opOf neq) t a1 a2 (.agg (x.map real).toArray) (.agg (y.map real).toArray); Go.binOp (opOf neq) t (.agg (x.map real).toArray) (.agg (y.map real).toArray) : Sem Value).run P w = .ok (.bool b) w
  | .slen q d r => Good' r ∧ real r = .int .i64 (lenS q d : Int)
  | .mm3 mx x y z r => ∃ k a b c, real x = .int k a ∧ real y = .int k b ∧ real z = .int k c ∧ Good' r ∧ real r = .int k (pick2 mx (pick2 mx a b) c)
theorem Good'.vr {β : Mp} {r : Value} (h : Good' r) : VR β r (real r) := by
  rcases h with ⟨b, rfl⟩ | ⟨j, rfl, k, n, he⟩ | ⟨k, n, rfl⟩
  · exact .bool b
  · exact .opq j (by rw [he]; rfl) (fun b => by rw [he]; intro h; cases h)
  · exact .int k n
theorem real_of {β : Mp} {x x' : Value} (h : VR β x x') (hn : Num (real x)) : x' = real x := by
  cases h with
  | opq j h1 h2 => rfl
  | int k n => rfl
  | _ => obtain ⟨k, n, he⟩ := hn; cases he
theorem real_ofB {β : Mp} {x x' : Value} (h : VR β x x') (hn : NumB (real x)) : x' = real x := by
  rcases hn with hn | ⟨b, hb⟩
  · exact real_of h hn
  · cases h with
    | opq j h1 h2 => exact absurd hb (h2 b)
    | bool b => rfl
    | _ => cases hb
theorem reals_of {β : Mp} {l l' : List Value} (h : PW β l l') (hn : ∀ v ∈ l, NumB (real v)) : l' = l.map real := by
  apply List.ext_getElem (by rw [List.length_map]; exact h.1.symm)
  intro j j1 j2
  rw [List.getElem_map]
  have j3 : j < l.length := by simpa using j2
  exact real_ofB (h.2 j _ _ (List.getElem?_eq_getElem j3) (List.getElem?_eq_getElem j1)) (hn _ (List.getElem_mem j3))
theorem tabOf_ok {P : Program} {l : List Ent} (hl : ∀ e ∈ l, EntOK P e) : ∀ β o xs v ρ, tabOf P l o xs = some v → PW β xs (o.op.operands.toList.map ρ) → ∃ v', VR β v v' ∧ ∀ w, (execOp ρ o).run P w = .ok (.value v') w := by
  intro β o xs v ρ h hp
  unfold tabOf at h
  split at h
  · rename_i op t a1 a2 yt ho
    split at h
    · rename_i cx cy
      have fin : ∀ neq, op = opOf neq → findEqs neq t cx.toList cy.toList l = some v → ∃ v', VR β v v' ∧ ∀ w, (execOp ρ o).run P w = .ok (.value v') w := fun neq hop h => by
        obtain ⟨b, rfl, hm⟩ := findEqs_ok h
        obtain ⟨h1, h2, h3⟩ := hl _ hm
        simp only [ho, Op.operands] at hp
        obtain ⟨x', y', e, k1, k2⟩ := hp.two
        simp at e
        obtain ⟨e1, e2⟩ := e
        cases k1 with
        | @agg _ cx' g1 g2 =>
          cases k2 with
          | @agg _ cy' g3 g4 =>
            have q1 := reals_of (PW.of_arr g1 g2) h1
            have q2 := reals_of (PW.of_arr g3 g4) h2
            have r1 : cx' = (cx.toList.map real).toArray := by rw [← q1]
            have r2 : cy' = (cy.toList.map real).toArray := by rw [← q2]
            refine ⟨_, .bool b, fun w => ?_⟩
            have := h3 a1 a2 w
            rw [← r1, ← r2, ← hop] at this
            simp only [execOp, ho, e1, e2]
            simp only [Sem.run_bind] at this ⊢
            rw [this]
            rfl
      split at h
      · exact fin false rfl h
      · exact fin true rfl h
      · cases h
    · rename_i x y hno
      obtain ⟨h1, h2, h3, h4⟩ := hl _ (findBin_ok h)
      simp only [ho, Op.operands] at hp
      obtain ⟨x', y', e, k1, k2⟩ := hp.two
      simp at e
      obtain ⟨e1, e2⟩ := e
      rw [real_of k1 h1] at e1
      rw [real_of k2 h2] at e2
      refine ⟨_, h3.vr, fun w => ?_⟩
      obtain ⟨ka, na, ea⟩ := h1
      obtain ⟨kb, nb, eb⟩ := h2
      have hg : (eqGuard op t a1 a2 (real x) (real y)).run P w = .ok () w := by
        rw [ea, eb]
        unfold eqGuard
        split <;> rfl
      simp only [execOp, ho, e1, e2, Sem.run_bind, hg, Result.andThen_ok, h4, Sem.run_pure]
    · cases h
  · rename_i s d a1 ho
    split at h
    · rename_i x
      split at h
      · rename_i ds hs
        split at h
        · rename_i k hd
          obtain ⟨lk, n, h1, h2, h3⟩ := hl _ (findConv_ok h)
          simp only [ho, Op.operands] at hp
          obtain ⟨x', e, k1⟩ := hp.one
          simp at e
          rw [real_of k1 ⟨lk, n, h1⟩] at e
          refine ⟨_, h2.vr, fun w => ?_⟩
          have : (Go.convert s d (.int lk n)).run P w = .ok (.int k (k.wrap n)) w := by
            unfold Go.convert
            simp only [Sem.run_bind, run_underlying hs, run_underlying hd, Result.andThen_ok]
            cases ds <;> rfl
          simp only [execOp, ho, e, h1, Sem.run_bind, this, Result.andThen_ok, Sem.run_pure, h3]
        · cases h
      · cases h
    · cases h
  · rename_i cl ho
    split at h
    · rename_i t x hc hty
      simp only [ho, Op.operands, Call.operands, hc] at hp
      obtain ⟨x', e, k1⟩ := hp.one
      have e1 : cl.args.map ρ = #[x'] := by
        apply Array.ext'
        simpa using e
      have e2 : cl.argTypes = #[t] := by apply Array.ext'; simpa using hty
      have fin : ∀ s, Ent.len s x v ∈ l → (∀ j n, x = .chan (some j) → ((s = false ∧ ∃ a c, Env.E j = .slice a n c) ∨ (s = true ∧ ∃ q : ByteArray, Env.E j = .string q ∧ n = q.size)) → ∀ w, (Builtin.len_ #[t] o.type #[Env.E j]).run P w = .ok (.int .i64 (n : Int)) w) → ∃ v', VR β v v' ∧ ∀ w, (execOp ρ o).run P w = .ok (.value v') w := fun s hm hrun => by
        obtain ⟨j, n, rfl, h1, h2, h3⟩ := hl _ hm
        have hx' : x' = Env.E j := by
          generalize hE : Env.E j = y at h1
          cases k1 with
          | opq j h4 h5 => exact hE
        subst hx'
        refine ⟨_, h2.vr, fun w => ?_⟩
        rw [h3]
        have hlen := hrun j n rfl h1 w
        simp only [execOp, ho, resolve, hc, e1, e2, Sem.run_bind, Sem.run_pure, Result.andThen_ok]
        simp [invoke, builtin, hlen]
      split at h
      · rename_i e' hu
        split at h
        · rename_i i1 o1 q1 l1 d1
          obtain ⟨g1, g2⟩ := hl _ (findSl_ok h)
          cases k1 with
          | @ssl _ I a' _ _ _ _ C hβ k1 k2 k3 k4 k5 k6 =>
            refine ⟨_, g1.vr, fun w => ?_⟩
            have hlen : (Builtin.len_ #[t] o.type #[.slice (some a') (lenS q1 d1) C]).run P w = .ok (.int .i64 (lenS q1 d1 : Int)) w := by simp [Builtin.len_, Sem.run_bind, run_underlying hu, goInt]
            simp only [execOp, ho, resolve, hc, e1, e2, Sem.run_bind, Sem.run_pure, Result.andThen_ok]
            simp [invoke, builtin, hlen, g2]
        refine fin false (findLen_ok h) fun j n hx hj w => ?_
        rcases hj with ⟨_, a, c, he⟩ | ⟨hs, _⟩
        · simp [Builtin.len_, Sem.run_bind, run_underlying hu, he, goInt]
        · cases hs
      · rename_i hu
        refine fin true (findLen_ok h) fun j n hx hj w => ?_
        rcases hj with ⟨hs, _⟩ | ⟨_, q, he, rfl⟩
        · cases hs
        · simp [Builtin.len_, Sem.run_bind, run_underlying hu, he, goInt]
      · cases h
    · rename_i x y hc
      obtain ⟨k, a, b, h1, h2, h3, h4⟩ := hl _ (findMm_ok h)
      simp only [ho, Op.operands, Call.operands, hc] at hp
      obtain ⟨x', y', e, k1, k2⟩ := hp.two
      have e1 : cl.args.map ρ = #[x', y'] := by
        apply Array.ext'
        simpa using e
      rw [real_of k1 ⟨k, a, h1⟩, h1, real_of k2 ⟨k, b, h2⟩, h2] at e1
      refine ⟨_, h3.vr, fun w => ?_⟩
      rw [h4]
      simp only [execOp, ho, resolve, hc, e1, Sem.run_bind, Sem.run_pure, Result.andThen_ok]
      simp [invoke, builtin, Builtin.min_, Builtin.min2]
    · rename_i x y hc
      obtain ⟨k, a, b, h1, h2, h3, h4⟩ := hl _ (findMm_ok h)
      simp only [ho, Op.operands, Call.operands, hc] at hp
      obtain ⟨x', y', e, k1, k2⟩ := hp.two
      have e1 : cl.args.map ρ = #[x', y'] := by
        apply Array.ext'
        simpa using e
      rw [real_of k1 ⟨k, a, h1⟩, h1, real_of k2 ⟨k, b, h2⟩, h2] at e1
      refine ⟨_, h3.vr, fun w => ?_⟩
      rw [h4]
      simp only [execOp, ho, resolve, hc, e1, Sem.run_bind, Sem.run_pure, Result.andThen_ok]
      simp [invoke, builtin, Builtin.max_, Builtin.max2]
    · rename_i x y z hc
      obtain ⟨k, a, b, c, h1, h2, h5, h3, h4⟩ := hl _ (findMm3_ok h)
      simp only [ho, Op.operands, Call.operands, hc] at hp
      obtain ⟨x', y', z', e, k1, k2, k3⟩ := hp.three
      have e1 : cl.args.map ρ = #[x', y', z'] := by
        apply Array.ext'
        simpa using e
      rw [real_of k1 ⟨k, a, h1⟩, h1, real_of k2 ⟨k, b, h2⟩, h2, real_of k3 ⟨k, c, h5⟩, h5] at e1
      refine ⟨_, h3.vr, fun w => ?_⟩
      rw [h4]
      simp only [execOp, ho, resolve, hc, e1, Sem.run_bind, Sem.run_pure, Result.andThen_ok]
      simp [invoke, builtin, Builtin.min_, Builtin.min2, pick2]
    · rename_i x y z hc
      obtain ⟨k, a, b, c, h1, h2, h5, h3, h4⟩ := hl _ (findMm3_ok h)
      simp only [ho, Op.operands, Call.operands, hc] at hp
      obtain ⟨x', y', z', e, k1, k2, k3⟩ := hp.three
      have e1 : cl.args.map ρ = #[x', y', z'] := by
        apply Array.ext'
        simpa using e
      rw [real_of k1 ⟨k, a, h1⟩, h1, real_of k2 ⟨k, b, h2⟩, h2, real_of k3 ⟨k, c, h5⟩, h5] at e1
      refine ⟨_, h3.vr, fun w => ?_⟩
      rw [h4]
      simp only [execOp, ho, resolve, hc, e1, Sem.run_bind, Sem.run_pure, Result.andThen_ok]
      simp [invoke, builtin, Builtin.max_, Builtin.max2, pick2]
    · cases h
  · cases h
theorem entCmp {P : Program} {op : BinOp} {x y : Value} {k : IntKind} {a b : Int} {r : Bool} (hx : real x = .int k a) (hy : real y = .int k b)
    (h : (match op with | .eql => some (a == b) | .neq => some (a != b) | .lss => some (decide (a < b)) | .leq => some (decide (a ≤ b)) | .gtr => some (decide (a > b)) | .geq => some (decide (a ≥ b)) | _ => none) = some r) : EntOK P (.bin op x y (.bool r)) := by
  refine ⟨⟨k, a, hx⟩, ⟨k, b, hy⟩, .inl ⟨r, rfl⟩, fun t w => ?_⟩
  rw [hx, hy]
  cases op <;> simp only [Option.some.injEq, reduceCtorEq] at h <;> subst h <;> simp [Go.binOp, Op.intCmp, real]
theorem entArith {P : Program} {op : BinOp} {x y : Value} {k : IntKind} {a b c : Int} {j : Nat} (hx : real x = .int k a) (hy : real y = .int k b) (hj : Env.E j = .int k c)
    (h : (match op with | .add => some (k.wrap (a + b)) | .sub => some (k.wrap (a - b)) | .mul => some (k.wrap (a * b)) | _ => none) = some c) : EntOK P (.bin op x y (.chan (some j))) := by
  refine ⟨⟨k, a, hx⟩, ⟨k, b, hy⟩, .inr (.inl ⟨j, rfl, k, c, hj⟩), fun t w => ?_⟩
  rw [hx, hy]
  cases op <;> simp only [Option.some.injEq, reduceCtorEq] at h <;> subst h <;> simp [Go.binOp, Op.intArith, real, hj]
def band (k : IntKind) (a b : Int) : Int := k.wrap ((BitVec.ofInt k.bits a &&& BitVec.ofInt k.bits b).toNat : Int)
def bor (k : IntKind) (a b : Int) : Int := k.wrap ((BitVec.ofInt k.bits a ||| BitVec.ofInt k.bits b).toNat : Int)
theorem entAnd {P : Program} {x y : Value} {k : IntKind} {a b : Int} {j : Nat} (hx : real x = .int k a) (hy : real y = .int k b) (hj : Env.E j = .int k (band k a b)) : EntOK P (.bin .and x y (.chan (some j))) := by
  refine ⟨⟨k, a, hx⟩, ⟨k, b, hy⟩, .inr (.inl ⟨j, rfl, k, _, hj⟩), fun t w => ?_⟩
  rw [hx, hy]
  simp [Go.binOp, Op.intBits, real, hj, band]
theorem entOr {P : Program} {x y : Value} {k : IntKind} {a b : Int} {j : Nat} (hx : real x = .int k a) (hy : real y = .int k b) (hj : Env.E j = .int k (bor k a b)) : EntOK P (.bin .or x y (.chan (some j))) := by
  refine ⟨⟨k, a, hx⟩, ⟨k, b, hy⟩, .inr (.inl ⟨j, rfl, k, _, hj⟩), fun t w => ?_⟩
  rw [hx, hy]
  simp [Go.binOp, Op.intBits, real, hj, bor]
theorem entRem {P : Program} {x y : Value} {k : IntKind} {a b : Int} {j : Nat} (hx : real x = .int k a) (hy : real y = .int k b) (hj : Env.E j = .int k (a.tmod b)) (h0 : b ≠ 0) : EntOK P (.bin .rem x y (.chan (some j))) := by
  refine ⟨⟨k, a, hx⟩, ⟨k, b, hy⟩, .inr (.inl ⟨j, rfl, k, _, hj⟩), fun t w => ?_⟩
  rw [hx, hy]
  simp [Go.binOp, Op.intDiv, real, hj, h0]
theorem entLen {P : Program} {i j : Nat} {a : Option Addr} {n c : Nat} (hx : Env.E i = .slice a n c) (hj : Env.E j = .int .i64 (n : Int)) : EntOK P (.len false (.chan (some i)) (.chan (some j))) :=
  ⟨i, n, rfl, .inl ⟨rfl, a, c, hx⟩, .inr (.inl ⟨j, rfl, _, _, hj⟩), by simp [real, hj]⟩
theorem entLenS {P : Program} {i j : Nat} {s : ByteArray} (hx : Env.E i = .string s) (hj : Env.E j = .int .i64 (s.size : Int)) : EntOK P (.len true (.chan (some i)) (.chan (some j))) :=
  ⟨i, s.size, rfl, .inr ⟨rfl, s, hx, rfl⟩, .inr (.inl ⟨j, rfl, _, _, hj⟩), by simp [real, hj]⟩
theorem entMm {P : Program} {mx : Bool} {x y : Value} {k : IntKind} {a b c : Int} {j : Nat} (hx : real x = .int k a) (hy : real y = .int k b) (hj : Env.E j = .int k c) (h : c = if mx = true then (if b > a then b else a) else (if b < a then b else a)) : EntOK P (.mm mx x y (.chan (some j))) :=
  ⟨k, a, b, hx, hy, .inr (.inl ⟨j, rfl, _, _, hj⟩), by simp only [real, hj, h]⟩
theorem entMmI {P : Program} {mx : Bool} {x y : Value} {k : IntKind} {a b c : Int} (hx : real x = .int k a) (hy : real y = .int k b) (h : c = if mx = true then (if b > a then b else a) else (if b < a then b else a)) : EntOK P (.mm mx x y (.int k c)) :=
  ⟨k, a, b, hx, hy, .inr (.inr ⟨k, c, rfl⟩), by simp only [real, h]⟩
theorem entConv {P : Program} {x : Value} {k l : IntKind} {a : Int} {j : Nat} (hx : real x = .int l a) (hj : Env.E j = .int k (k.wrap a)) : EntOK P (.conv k x (.chan (some j))) :=
  ⟨l, a, hx, .inr (.inl ⟨j, rfl, k, _, hj⟩), by simp [real, hj]⟩
theorem entSlen {P : Program} {q d n j : Nat} {c : Int} (hq : Env.E q = .int .i64 (n : Int)) (hj : Env.E j = .int .i64 c) (h : c = if d % 2 = 0 then (n : Int) + (d / 2 : Nat) else (n : Int) - (d / 2 : Nat)) (hd : d % 2 = 0 ∨ d / 2 ≤ n) : EntOK P (.slen q d (.chan (some j))) := by
  refine ⟨.inr (.inl ⟨j, rfl, .i64, c, hj⟩), ?_⟩
  show Env.E j = _
  rw [hj, h]
  have hl : lenOf q = n := by unfold lenOf; rw [hq]
  congr 1
  unfold lenS
  rw [hl]
  split
  · simp
  · omega
end
theorem entMm3 [Env] {P : Program} {mx : Bool} {x y z : Value} {k : IntKind} {a b c d : Int} {j : Nat} (hx : real x = .int k a) (hy : real y = .int k b) (hz : real z = .int k c) (hj : Env.E j = .int k d) (h : pick2 mx (pick2 mx a b) c = d) : EntOK P (.mm3 mx x y z (.chan (some j))) :=
  ⟨k, a, b, c, hx, hy, hz, .inr (.inl ⟨j, rfl, _, _, hj⟩), by simp only [real, hj, h]⟩
theorem entMm3I [Env] {P : Program} {mx : Bool} {x y z : Value} {k : IntKind} {a b c d : Int} (hx : real x = .int k a) (hy : real y = .int k b) (hz : real z = .int k c) (h : pick2 mx (pick2 mx a b) c = d) : EntOK P (.mm3 mx x y z (.int k d)) :=
  ⟨k, a, b, c, hx, hy, hz, .inr (.inr ⟨k, d, rfl⟩), by simp only [real, h]⟩
theorem lawS (vals : List Value) (l : List Ent) {sp : SpF} (hsp : @SpOK (env vals) Try.prog sp) (hl : ∀ e ∈ l, @EntOK (env vals) Try.prog e) {f : Nat} {k : FuncId} {args args' : List Value} {b : Bool} (h : says (fxCall Try.prog (tabOf Try.prog l) sp f k args 0 .lf) = some b)
    (hargs : @PW (env vals) (fun _ => none) args args') (w : World) : Calls Try.prog k args'.toArray w (fun e w' => e = .returned (.bool b) ∧ Only [] w w') := by
  letI : Env := env vals
  exact lawT vals hsp (tabOf_ok hl) h hargs w
end Go.Proofs.Ytdpmjghdmpaehaa.ev
