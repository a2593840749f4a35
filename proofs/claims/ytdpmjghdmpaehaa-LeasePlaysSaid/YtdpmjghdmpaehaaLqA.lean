/-
  Chapter 23 (lease): a message and a client as data; what is read of their blocks, and written. Conditions: none but those typed.
-/
import Derived.Test.YtdpmjghdmpaehaaStc
import Derived.Test.YtdpmjghdmpaehaaRws
import Derived.KernelRfl
import Derived.Test.YtdpmjghdmpaehaaLsH
namespace Go.Proofs.Ytdpmjghdmpaehaa.lp
set_option linter.unusedVariables false
set_option linter.unusedSimpArgs false
open Go.ChangeShapes Go.WideShapes Go.ChangeAt Go.RowKit Go.IntWalk Go.Lib
/-- A message. -/
structure Lm where
  op : Int
  id : Int
  yo : Int
  c0 : Int
  c1 : Int
  c2 : Int
  c3 : Int
  c4 : Int
  c5 : Int
  ty : Int
  sv : Int
  ak : Int
  ti : Int
  ma : Int
  ro : Int
  re : Int
def Lm.enc (l : Lm) : List Value := [.int .i64 l.op, .int .u32 l.id, .int .u32 l.yo, .int .u8 l.c0, .int .u8 l.c1, .int .u8 l.c2, .int .u8 l.c3, .int .u8 l.c4, .int .u8 l.c5, .int .i64 l.ty, .int .u32 l.sv, .int .u32 l.ak, .int .i64 l.ti, .int .u32 l.ma, .int .u32 l.ro, .int .u32 l.re]
def Lm.cs (l : Lm) : Array Value := l.enc.toArray
def Lm.zero : Lm := ⟨0, 0, 0, 0, 0, 0, 0, 0, 0, 0, 0, 0, 0, 0, 0, 0⟩
theorem enc_len (l : Lm) : l.enc.length = 16 := rfl
theorem cs_size (l : Lm) : l.cs.size = 16 := rfl
theorem enc_one (l : Lm) : ∀ u ∈ l.enc, u.oneCell' = true := fun u hu => by
  simp only [Lm.enc, List.mem_cons, List.not_mem_nil, or_false] at hu
  rcases hu with rfl | rfl | rfl | rfl | rfl | rfl | rfl | rfl | rfl | rfl | rfl | rfl | rfl | rfl | rfl | rfl <;> rfl
theorem cs_one (l : Lm) : l.cs.all (·.oneCell') = true := Array.all_eq_true_iff_forall_mem.2 (fun v hv => enc_one l v (by simpa [Lm.cs] using hv))
/-- A client. -/
structure Mc where
  c0 : Int
  c1 : Int
  c2 : Int
  c3 : Int
  c4 : Int
  c5 : Int
  st : Int
  id : Int
  due : Int
  tr : Int
  of : Lm
  le : Lm
  be : Int
def Mc.pre (s : Mc) : List Value := [.int .u8 s.c0, .int .u8 s.c1, .int .u8 s.c2, .int .u8 s.c3, .int .u8 s.c4, .int .u8 s.c5, .int .i64 s.st, .int .u32 s.id, .int .i64 s.due, .int .i64 s.tr]
def Mc.cs (s : Mc) (tl : List Value) : Array Value := (s.pre ++ (s.of.enc ++ (s.le.enc ++ (.int .i64 s.be :: tl)))).toArray
theorem mcs_size (s : Mc) (tl : List Value) : 43 ≤ (s.cs tl).size := by
  simp [Mc.cs, Mc.pre, Lm.enc]
theorem foldl_mid : ∀ (vs mid pre post : List Value), vs.length = mid.length → (vs.zipIdx.foldl (fun c (p : Value × Nat) => c.setIfInBounds (pre.length + p.2) p.1) (pre ++ (mid ++ post)).toArray) = (pre ++ (vs ++ post)).toArray
  | [], [], pre, post, _ => by simp
  | [], _ :: _, _, _, h => by simp at h
  | v :: r, [], pre, _, h => by simp at h
  | v :: r, q :: mid, pre, post, h => by
    have ih := foldl_mid r mid (pre ++ [v]) post (by simpa using h)
    have e : ∀ (l : List (Value × Nat)) (c : Array Value) , (l.map fun (p : Value × Nat) => (p.1, p.2 + 1)).foldl (fun c (p : Value × Nat) => c.setIfInBounds (pre.length + p.2) p.1) c = l.foldl (fun c (p : Value × Nat) => c.setIfInBounds ((pre ++ [v]).length + p.2) p.1) c := by
      intro l
      induction l with
      | nil => intro c; rfl
      | cons a l ih => intro c; simp only [List.map_cons, List.foldl_cons]; rw [ih]; congr 1; rw [show pre.length + (a.2 + 1) = (pre ++ [v]).length + a.2 from by simp; omega]
    have e2 : (v :: r).zipIdx = (v, 0) :: (r.zipIdx.map fun (p : Value × Nat) => (p.1, p.2 + 1)) := by
      rw [List.zipIdx_cons]
      congr 1
      have e3 : r.zipIdx (0 + 1) = r.zipIdx.map (fun p : Value × Nat => (p.1, p.2 + 1)) := by
        rw [List.zipIdx_succ]
      exact e3
    rw [e2, List.foldl_cons, e]
    have e4 : (pre ++ (q :: mid ++ post)).toArray.setIfInBounds (pre.length + (v, 0).2) (v, 0).1 = (pre ++ [v] ++ (mid ++ post)).toArray := by simp
    rw [e4, ih]
    simp
/-- Some of a block's cells are written. -/
theorem Ob.setMid {w : World} {g : Nat} {t : TypeId} {pre mid post vs : List Value} (k : Nat) (h : Ob w g t (pre ++ (mid ++ post)).toArray) (hk : pre.length = k) (hv : vs.length = mid.length) : Ob (w.setCells g k vs) g t (pre ++ (vs ++ post)).toArray := by
  have h1 := Ob.setCells (g := g) (t := t) (w := w) vs k _ _ h
  subst hk
  have h2 := foldl_mid vs mid pre post hv
  rwa [← h2]
theorem Ob.rangeMid {w : World} {g : Nat} {t : TypeId} {pre mid post : List Value} (k : Nat) (h : Ob w g t (pre ++ (mid ++ post)).toArray) (hk : pre.length = k) : w.rangeAt g k mid := fun j v hv => by
  subst hk
  have hj : j < mid.length := (List.getElem?_eq_some_iff.1 hv).1
  rw [h.cell, List.getElem?_toArray, List.getElem?_append_right (by omega), Nat.add_sub_cancel_left, List.getElem?_append_left hj, hv]
section
variable {w : World} {m : Nat} {T : TypeId} {tl : List Value} {s : Mc} {l : Lm}
theorem k_c0 (h : Ob w m T (s.cs tl)) : w.cell? ⟨m, 0, none⟩ = some (.int .u8 s.c0) := by rw [h.cell]; simp [Mc.cs, Mc.pre]
theorem k_c1 (h : Ob w m T (s.cs tl)) : w.cell? ⟨m, 1, none⟩ = some (.int .u8 s.c1) := by rw [h.cell]; simp [Mc.cs, Mc.pre]
theorem k_c2 (h : Ob w m T (s.cs tl)) : w.cell? ⟨m, 2, none⟩ = some (.int .u8 s.c2) := by rw [h.cell]; simp [Mc.cs, Mc.pre]
theorem k_c3 (h : Ob w m T (s.cs tl)) : w.cell? ⟨m, 3, none⟩ = some (.int .u8 s.c3) := by rw [h.cell]; simp [Mc.cs, Mc.pre]
theorem k_c4 (h : Ob w m T (s.cs tl)) : w.cell? ⟨m, 4, none⟩ = some (.int .u8 s.c4) := by rw [h.cell]; simp [Mc.cs, Mc.pre]
theorem k_c5 (h : Ob w m T (s.cs tl)) : w.cell? ⟨m, 5, none⟩ = some (.int .u8 s.c5) := by rw [h.cell]; simp [Mc.cs, Mc.pre]
theorem k_st (h : Ob w m T (s.cs tl)) : w.cell? ⟨m, 6, none⟩ = some (.int .i64 s.st) := by rw [h.cell]; simp [Mc.cs, Mc.pre]
theorem k_id (h : Ob w m T (s.cs tl)) : w.cell? ⟨m, 7, none⟩ = some (.int .u32 s.id) := by rw [h.cell]; simp [Mc.cs, Mc.pre]
theorem k_due (h : Ob w m T (s.cs tl)) : w.cell? ⟨m, 8, none⟩ = some (.int .i64 s.due) := by rw [h.cell]; simp [Mc.cs, Mc.pre]
theorem k_tr (h : Ob w m T (s.cs tl)) : w.cell? ⟨m, 9, none⟩ = some (.int .i64 s.tr) := by rw [h.cell]; simp [Mc.cs, Mc.pre]
theorem k_be (h : Ob w m T (s.cs tl)) : w.cell? ⟨m, 42, none⟩ = some (.int .i64 s.be) := by rw [h.cell]; simp [Mc.cs, Mc.pre, Lm.enc]
theorem k_of_yo (h : Ob w m T (s.cs tl)) : w.cell? ⟨m, 12, none⟩ = some (.int .u32 s.of.yo) := by rw [h.cell]; simp [Mc.cs, Mc.pre, Lm.enc]
theorem k_of_sv (h : Ob w m T (s.cs tl)) : w.cell? ⟨m, 20, none⟩ = some (.int .u32 s.of.sv) := by rw [h.cell]; simp [Mc.cs, Mc.pre, Lm.enc]
theorem k_of_ti (h : Ob w m T (s.cs tl)) : w.cell? ⟨m, 22, none⟩ = some (.int .i64 s.of.ti) := by rw [h.cell]; simp [Mc.cs, Mc.pre, Lm.enc]
theorem k_le_yo (h : Ob w m T (s.cs tl)) : w.cell? ⟨m, 28, none⟩ = some (.int .u32 s.le.yo) := by rw [h.cell]; simp [Mc.cs, Mc.pre, Lm.enc]
theorem k_le_sv (h : Ob w m T (s.cs tl)) : w.cell? ⟨m, 36, none⟩ = some (.int .u32 s.le.sv) := by rw [h.cell]; simp [Mc.cs, Mc.pre, Lm.enc]
theorem k_le_ti (h : Ob w m T (s.cs tl)) : w.cell? ⟨m, 38, none⟩ = some (.int .i64 s.le.ti) := by rw [h.cell]; simp [Mc.cs, Mc.pre, Lm.enc]
theorem l_op (h : Ob w m T l.cs) : w.cell? ⟨m, 0, none⟩ = some (.int .i64 l.op) := by rw [h.cell]; simp [Lm.cs, Lm.enc]
theorem l_id (h : Ob w m T l.cs) : w.cell? ⟨m, 1, none⟩ = some (.int .u32 l.id) := by rw [h.cell]; simp [Lm.cs, Lm.enc]
theorem l_yo (h : Ob w m T l.cs) : w.cell? ⟨m, 2, none⟩ = some (.int .u32 l.yo) := by rw [h.cell]; simp [Lm.cs, Lm.enc]
theorem l_c0 (h : Ob w m T l.cs) : w.cell? ⟨m, 3, none⟩ = some (.int .u8 l.c0) := by rw [h.cell]; simp [Lm.cs, Lm.enc]
theorem l_c1 (h : Ob w m T l.cs) : w.cell? ⟨m, 4, none⟩ = some (.int .u8 l.c1) := by rw [h.cell]; simp [Lm.cs, Lm.enc]
theorem l_c2 (h : Ob w m T l.cs) : w.cell? ⟨m, 5, none⟩ = some (.int .u8 l.c2) := by rw [h.cell]; simp [Lm.cs, Lm.enc]
theorem l_c3 (h : Ob w m T l.cs) : w.cell? ⟨m, 6, none⟩ = some (.int .u8 l.c3) := by rw [h.cell]; simp [Lm.cs, Lm.enc]
theorem l_c4 (h : Ob w m T l.cs) : w.cell? ⟨m, 7, none⟩ = some (.int .u8 l.c4) := by rw [h.cell]; simp [Lm.cs, Lm.enc]
theorem l_c5 (h : Ob w m T l.cs) : w.cell? ⟨m, 8, none⟩ = some (.int .u8 l.c5) := by rw [h.cell]; simp [Lm.cs, Lm.enc]
theorem l_ty (h : Ob w m T l.cs) : w.cell? ⟨m, 9, none⟩ = some (.int .i64 l.ty) := by rw [h.cell]; simp [Lm.cs, Lm.enc]
theorem l_sv (h : Ob w m T l.cs) : w.cell? ⟨m, 10, none⟩ = some (.int .u32 l.sv) := by rw [h.cell]; simp [Lm.cs, Lm.enc]
theorem l_ak (h : Ob w m T l.cs) : w.cell? ⟨m, 11, none⟩ = some (.int .u32 l.ak) := by rw [h.cell]; simp [Lm.cs, Lm.enc]
theorem l_ti (h : Ob w m T l.cs) : w.cell? ⟨m, 12, none⟩ = some (.int .i64 l.ti) := by rw [h.cell]; simp [Lm.cs, Lm.enc]
theorem l_ma (h : Ob w m T l.cs) : w.cell? ⟨m, 13, none⟩ = some (.int .u32 l.ma) := by rw [h.cell]; simp [Lm.cs, Lm.enc]
theorem l_ro (h : Ob w m T l.cs) : w.cell? ⟨m, 14, none⟩ = some (.int .u32 l.ro) := by rw [h.cell]; simp [Lm.cs, Lm.enc]
theorem l_re (h : Ob w m T l.cs) : w.cell? ⟨m, 15, none⟩ = some (.int .u32 l.re) := by rw [h.cell]; simp [Lm.cs, Lm.enc]
theorem r_mac (h : Ob w m T (s.cs tl)) : w.rangeAt m 0 [.int .u8 s.c0, .int .u8 s.c1, .int .u8 s.c2, .int .u8 s.c3, .int .u8 s.c4, .int .u8 s.c5] := Ob.rangeMid (pre := []) (mid := [.int .u8 s.c0, .int .u8 s.c1, .int .u8 s.c2, .int .u8 s.c3, .int .u8 s.c4, .int .u8 s.c5]) (post := [.int .i64 s.st, .int .u32 s.id, .int .i64 s.due, .int .i64 s.tr] ++ (s.of.enc ++ (s.le.enc ++ (.int .i64 s.be :: tl)))) 0 h rfl
theorem r_lmac (h : Ob w m T l.cs) : w.rangeAt m 3 [.int .u8 l.c0, .int .u8 l.c1, .int .u8 l.c2, .int .u8 l.c3, .int .u8 l.c4, .int .u8 l.c5] := Ob.rangeMid (pre := [.int .i64 l.op, .int .u32 l.id, .int .u32 l.yo]) (mid := [.int .u8 l.c0, .int .u8 l.c1, .int .u8 l.c2, .int .u8 l.c3, .int .u8 l.c4, .int .u8 l.c5]) (post := [.int .i64 l.ty, .int .u32 l.sv, .int .u32 l.ak, .int .i64 l.ti, .int .u32 l.ma, .int .u32 l.ro, .int .u32 l.re]) 3 h rfl
theorem r_of (h : Ob w m T (s.cs tl)) : w.rangeAt m 10 s.of.enc := Ob.rangeMid (pre := s.pre) 10 h rfl
theorem r_le (h : Ob w m T (s.cs tl)) : w.rangeAt m 26 s.le.enc := Ob.rangeMid (pre := s.pre ++ s.of.enc) (mid := s.le.enc) (post := .int .i64 s.be :: tl) 26 (by simpa [Mc.cs] using h) rfl
theorem r_all (h : Ob w m T l.cs) : w.rangeAt m 0 l.enc := Ob.rangeMid (pre := []) (mid := l.enc) (post := []) 0 (by simpa [Lm.cs] using h) rfl
theorem p_of (h : Ob w m T (s.cs tl)) (l : Lm) : Ob (w.setCells m 10 l.enc) m T (({s with of := l} : Mc).cs tl) := Ob.setMid (pre := s.pre) (mid := s.of.enc) (post := s.le.enc ++ (.int .i64 s.be :: tl)) 10 h rfl rfl
theorem p_le (h : Ob w m T (s.cs tl)) (l : Lm) : Ob (w.setCells m 26 l.enc) m T (({s with le := l} : Mc).cs tl) := by
  have := Ob.setMid (pre := s.pre ++ s.of.enc) (mid := s.le.enc) (post := .int .i64 s.be :: tl) (vs := l.enc) 26 (by simpa [Mc.cs] using h) rfl rfl
  simpa [Mc.cs, Mc.pre] using this
theorem p_all (h : Ob w m T l.cs) (l' : Lm) : Ob (w.setCells m 0 l'.enc) m T l'.cs := by
  have := Ob.setMid (pre := []) (mid := l.enc) (post := []) (vs := l'.enc) 0 (by simpa [Lm.cs] using h) rfl rfl
  simpa [Lm.cs] using this
theorem p_mac (h : Ob w m T l.cs) (a0 a1 a2 a3 a4 a5 : Int) : Ob (w.setCells m 3 [.int .u8 a0, .int .u8 a1, .int .u8 a2, .int .u8 a3, .int .u8 a4, .int .u8 a5]) m T (({l with c0 := a0, c1 := a1, c2 := a2, c3 := a3, c4 := a4, c5 := a5} : Lm).cs) := Ob.setMid (pre := [.int .i64 l.op, .int .u32 l.id, .int .u32 l.yo]) (mid := [.int .u8 l.c0, .int .u8 l.c1, .int .u8 l.c2, .int .u8 l.c3, .int .u8 l.c4, .int .u8 l.c5]) (post := [.int .i64 l.ty, .int .u32 l.sv, .int .u32 l.ak, .int .i64 l.ti, .int .u32 l.ma, .int .u32 l.ro, .int .u32 l.re]) 3 h rfl rfl
theorem p_st (h : Ob w m T (s.cs tl)) (v : Int) : Ob (w.setCells m 6 [.int .i64 v]) m T (({s with st := v} : Mc).cs tl) := by
  have := h.set 6 (.int .i64 v)
  simpa [Mc.cs, Mc.pre, World.setCells] using this
theorem p_id (h : Ob w m T (s.cs tl)) (v : Int) : Ob (w.setCells m 7 [.int .u32 v]) m T (({s with id := v} : Mc).cs tl) := by
  have := h.set 7 (.int .u32 v)
  simpa [Mc.cs, Mc.pre, World.setCells] using this
theorem p_due (h : Ob w m T (s.cs tl)) (v : Int) : Ob (w.setCells m 8 [.int .i64 v]) m T (({s with due := v} : Mc).cs tl) := by
  have := h.set 8 (.int .i64 v)
  simpa [Mc.cs, Mc.pre, World.setCells] using this
theorem p_tr (h : Ob w m T (s.cs tl)) (v : Int) : Ob (w.setCells m 9 [.int .i64 v]) m T (({s with tr := v} : Mc).cs tl) := by
  have := h.set 9 (.int .i64 v)
  simpa [Mc.cs, Mc.pre, World.setCells] using this
theorem p_be (h : Ob w m T (s.cs tl)) (v : Int) : Ob (w.setCells m 42 [.int .i64 v]) m T (({s with be := v} : Mc).cs tl) := by
  have := h.set 42 (.int .i64 v)
  simpa [Mc.cs, Mc.pre, Lm.enc, World.setCells] using this
theorem q_op (h : Ob w m T l.cs) (v : Int) : Ob (w.setCells m 0 [.int .i64 v]) m T (({l with op := v} : Lm).cs) := by
  have := h.set 0 (.int .i64 v)
  simpa [Lm.cs, Lm.enc, World.setCells] using this
theorem q_id (h : Ob w m T l.cs) (v : Int) : Ob (w.setCells m 1 [.int .u32 v]) m T (({l with id := v} : Lm).cs) := by
  have := h.set 1 (.int .u32 v)
  simpa [Lm.cs, Lm.enc, World.setCells] using this
theorem q_sv (h : Ob w m T l.cs) (v : Int) : Ob (w.setCells m 10 [.int .u32 v]) m T (({l with sv := v} : Lm).cs) := by
  have := h.set 10 (.int .u32 v)
  simpa [Lm.cs, Lm.enc, World.setCells] using this
theorem q_ti (h : Ob w m T l.cs) (v : Int) : Ob (w.setCells m 12 [.int .i64 v]) m T (({l with ti := v} : Lm).cs) := by
  have := h.set 12 (.int .i64 v)
  simpa [Lm.cs, Lm.enc, World.setCells] using this
end
theorem one_i (k : IntKind) (x : Int) : (Value.int k x).cells.all (·.oneCell') = true := Array.all_eq_true_iff_forall_mem.2 (fun v hv => by
  simp only [Value.cells, List.mem_toArray, List.mem_cons, List.not_mem_nil, or_false] at hv
  subst hv; rfl)
theorem one_l (l : Lm) : (Value.agg l.cs).cells.all (·.oneCell') = true := cs_one l
theorem one_m (a b c d e f : Int) : (Value.agg #[.int .u8 a, .int .u8 b, .int .u8 c, .int .u8 d, .int .u8 e, .int .u8 f]).cells.all (·.oneCell') = true := Array.all_eq_true_iff_forall_mem.2 (fun v hv => by
  simp only [Value.cells, List.mem_toArray, List.mem_cons, List.not_mem_nil, or_false] at hv
  rcases hv with rfl | rfl | rfl | rfl | rfl | rfl <;> rfl)
/-- A store into a block, field or struct. -/
theorem op_put {P : Program} {op : Oper} {a : Act} {w : World} {K : Act → World → Prop} {Q : Exit → Act → World → Prop} (ty : TypeId) (x y : Operand) (ho : op.op = .store ty x y) (m k : Nat) (hx : a.eval x = .pointer (some ⟨m, k, none⟩)) (v : Value) (hy : a.eval y = v)
    {T : TypeId} {cs cs' : Array Value} (hc : Ob w m T cs) (hi : (P.info? ty).map (·.size) = some v.cells.size) (hn : k + v.cells.size ≤ cs.size) (h1 : v.cells.all (·.oneCell') = true) (hs : Ob (w.setCells m k v.cells.toList) m T cs')
    (h : ∀ W, Ob W m T cs' → Only [m] w W → K (a.put op.dst undef) W) : op.wp P a w K Q := by
  have ht : w.there m k v.cells.size := fun j hj => ⟨by rw [hc.cell]; simp; omega, hc.frozen _⟩
  have hst : (storeVar ty ⟨m, k, none⟩ v).run P w = .ok () (w.setCells m k v.cells.toList) := by
    have := run_storeVar_mid (P := P) w m k ty v.cells ht hi h1
    rw [← this]
    unfold storeVar
    simp only [Value.cells]
    cases v <;> rfl
  unfold Oper.wp execOp
  simp only [ho, hx, hy, Instr.storeAt, Instr.sureAddr, Sem.run_bind, Sem.run_pure, Result.andThen_ok, hst]
  exact h _ hs (Only.setAll (.inl (by simp)) _ _ _ (Only.refl _ _))
theorem wp_put {P : Program} {ops : Array Oper} {rest : List Oper} {op : Oper} {a : Act} {w : World} {Q : Exit → Act → World → Prop} (hgd : op.guard = none) (ty : TypeId) (x y : Operand) (ho : op.op = .store ty x y) (m k : Nat) (hx : a.eval x = .pointer (some ⟨m, k, none⟩)) (v : Value) (hy : a.eval y = v)
    {T : TypeId} {cs cs' : Array Value} (hc : Ob w m T cs) (hi : (P.info? ty).map (·.size) = some v.cells.size) (hn : k + v.cells.size ≤ cs.size) (h1 : v.cells.all (·.oneCell') = true) (hs : Ob (w.setCells m k v.cells.toList) m T cs')
    (h : ∀ W, Ob W m T cs' → Only [m] w W → wpList P ops Q rest (a.put op.dst undef) W) : wpList P ops Q (op :: rest) a w :=
  wpList_plain hgd fun _ hK => op_put ty x y ho m k hx v hy hc hi hn h1 hs (fun W h1 h2 => hK _ _ (h W h1 h2))
/-- A message is read whole. -/
theorem exec_lm {P : Program} {op : Oper} {ρ : Operand → Value} {w : World} {d : TypeDesc} (ty : TypeId) (x : Operand) (ho : op.op = .load ty x) (g k : Nat) (hx : ρ x = .pointer (some ⟨g, k, none⟩)) (l : Lm) (hb : w.rangeAt g k l.enc)
    (hu : P.underlying ty = some d) (hd : d.isRow = true) (hi : (P.info? ty).map (·.size) = some 16) : (execOp ρ op).run P w = .ok (.value (.agg l.cs)) w := by
  have := run_loadVar_mid (P := P) w g k ty l.enc d hb hu hd hi
  unfold execOp
  simp only [ho, hx, Instr.loadAt, Instr.sureAddr, Sem.run_bind, Sem.run_pure, Result.andThen_ok, this]
  rfl
theorem exec_mac {P : Program} {op : Oper} {ρ : Operand → Value} {w : World} {d : TypeDesc} (ty : TypeId) (x : Operand) (ho : op.op = .load ty x) (g k : Nat) (hx : ρ x = .pointer (some ⟨g, k, none⟩)) (a b c e f h : Int) (hb : w.rangeAt g k [.int .u8 a, .int .u8 b, .int .u8 c, .int .u8 e, .int .u8 f, .int .u8 h])
    (hu : P.underlying ty = some d) (hd : d.isRow = true) (hi : (P.info? ty).map (·.size) = some 6) : (execOp ρ op).run P w = .ok (.value (.agg #[.int .u8 a, .int .u8 b, .int .u8 c, .int .u8 e, .int .u8 f, .int .u8 h])) w := by
  have := run_loadVar_mid (P := P) w g k ty _ d hb hu hd hi
  unfold execOp
  simp only [ho, hx, Instr.loadAt, Instr.sureAddr, Sem.run_bind, Sem.run_pure, Result.andThen_ok, this]
theorem wp_lm {P : Program} {ops : Array Oper} {rest : List Oper} {op : Oper} {a : Act} {w : World} {Q : Exit → Act → World → Prop} {d : TypeDesc} (hgd : op.guard = none) (ty : TypeId) (x : Operand) (ho : op.op = .load ty x)
    (g k : Nat) (hx : a.eval x = .pointer (some ⟨g, k, none⟩)) (l : Lm) (hb : w.rangeAt g k l.enc)
    (hu : P.underlying ty = some d) (hd : d.isRow = true) (hi : (P.info? ty).map (·.size) = some 16)
    (h : wpList P ops Q rest (a.put op.dst (.agg l.cs)) w) : wpList P ops Q (op :: rest) a w :=
  wpList_load_mid hgd ty x ho g k hx l.enc d hb hu hd hi h
theorem op_lm {P : Program} {op : Oper} {a : Act} {w : World} {K : Act → World → Prop} {Q : Exit → Act → World → Prop} {d : TypeDesc} (ty : TypeId) (x : Operand) (ho : op.op = .load ty x)
    (g k : Nat) (hx : a.eval x = .pointer (some ⟨g, k, none⟩)) (l : Lm) (hb : w.rangeAt g k l.enc)
    (hu : P.underlying ty = some d) (hd : d.isRow = true) (hi : (P.info? ty).map (·.size) = some 16)
    (h : K (a.put op.dst (.agg l.cs)) w) : op.wp P a w K Q :=
  wp_load_mid ty x ho g k hx l.enc d hb hu hd hi h
/-- What is sent: none or one message. -/
theorem rdS_lm (w : World) (l : Lm) : RdS (w.alloc (.cells l.cs 27)) (some ⟨w.heap.size, 0, none⟩) 1 16 (rws Lm.enc [l]) :=
  ⟨rfl, by rw [show rws Lm.enc [l] = l.enc from by simp [rws]]; exact enc_one l, fun _ => ⟨w.heap.size, 0, rfl, by simp, fun j u hj => by
    rw [Nat.zero_add, (Ob.new w 27 l.cs).cell]
    rw [← hj]
    simp [rws, Lm.cs]⟩⟩
end Go.Proofs.Ytdpmjghdmpaehaa.lp
/-
  Chapter 23 (lease): ticks, and what is sent, of the program and of the document, by a walk of each text. Conditions: none but those typed.
-/
namespace Go.Proofs.Ytdpmjghdmpaehaa.lp
set_option linter.unusedVariables false
set_option linter.unusedSimpArgs false
open Go.ChangeShapes Go.WideShapes Go.ChangeAt Go.RowKit Go.IntWalk Go.Lib
def laterZ (now b : Int) : Int := if 9223372036854775807 - b < now then 9223372036854775807 else now + b
theorem later1 (w : World) (now b : Int) (hb : 0 ≤ b ∧ b ≤ 9223372036854775807) (hn : -9223372036854775808 ≤ now ∧ now ≤ 9223372036854775807) : Calls Try.prog 55 #[.int .i64 now, .int .i64 b] w fun x w' => x = .returned (.int .i64 (laterZ now b)) ∧ w = w' := by
  by_cases h : 9223372036854775807 - b < now
  · have HL : Hid (laterZ now b = 9223372036854775807) := hid (if_pos h)
    go_enter Try.func55, Try.ntmps55
    go_wp2
    go_ret
    exact ⟨by rw [HL.out]; rfl, rfl⟩
  · have HL : Hid (laterZ now b = now + b) := hid (if_neg h)
    have hw : -9223372036854775808 ≤ now + b ∧ now + b ≤ 9223372036854775807 := by omega
    go_enter Try.func55, Try.ntmps55
    go_wp2
    go_ret
    exact ⟨by rw [HL.out]; first | rfl | simp, rfl⟩
theorem rlater (w : World) (now b : Int) (hb : 0 ≤ b ∧ b ≤ 9223372036854775807) (hn : 0 ≤ now ∧ now ≤ 9223372036854775807) : Calls Try.prog 51 #[.int .i64 now, .int .i64 b] w fun x w' => x = .returned (.int .i64 (laterZ now b)) ∧ w = w' := by
  by_cases h : 9223372036854775807 - b < now
  · have HL : Hid (laterZ now b = 9223372036854775807) := hid (if_pos h)
    have hw : IntKind.i64.wrap (now + b) = now + b - 18446744073709551616 := by rw [IntKind.wrap_i64]; omega
    have hb0 : 0 < b := by omega
    have hlt : now + b - 18446744073709551616 < now := by omega
    go_enter Try.func51, Try.ntmps51
    go_wp2_with fail
    go_ret
    exact ⟨by rw [HL.out]; first | rfl | simp, rfl⟩
  · have HL : Hid (laterZ now b = now + b) := hid (if_neg h)
    have hw : IntKind.i64.wrap (now + b) = now + b := i64_in _ (by omega)
    have hnl : ¬ now + b < now := by omega
    have hbn : ¬ b < 0 := by omega
    go_enter Try.func51, Try.ntmps51
    by_cases hb0 : 0 < b
    · go_wp2_with fail
      go_ret
      exact ⟨by rw [HL.out]; first | rfl | simp, rfl⟩
    · go_wp2_with fail
      go_ret
      exact ⟨by rw [HL.out]; first | rfl | simp, rfl⟩
theorem later_bd (now b : Int) (hn : 0 ≤ now ∧ now ≤ 9223372036854775807) (hb : 0 ≤ b) : 0 ≤ laterZ now b ∧ laterZ now b ≤ 9223372036854775807 := by unfold laterZ; split <;> omega
/-- Whether there is a lease. -/
theorem has1 (w : World) (m : Nat) (T : TypeId) (tl : List Value) (s : Mc) (r : Bool) (hO : Ob w m T (s.cs tl)) (hr : decide (3 ≤ s.st) = r) : Calls Try.prog 54 #[.pointer (some ⟨m, 0, none⟩)] w fun x w' => x = .returned (.bool r) ∧ w = w' := by
  have k6 := k_st hO
  obtain ⟨z, hz⟩ : ∃ z, s.st = z := ⟨_, rfl⟩
  rw [hz] at k6 hr
  clear hO hz
  go_enter Try.func54, Try.ntmps54
  go_wp2_with fail
  go_ret
  exact ⟨rfl, rfl⟩
theorem dur1 (w : World) (m : Nat) (T : TypeId) (tl : List Value) (s : Mc) (hO : Ob w m T (s.cs tl)) (ht : 0 ≤ s.le.ti ∧ s.le.ti ≤ 2147483647) : Calls Try.prog 56 #[.pointer (some ⟨m, 0, none⟩)] w fun x w' => x = .returned (.int .i64 (10 * s.le.ti)) ∧ w = w' := by
  have k38 := k_le_ti hO
  obtain ⟨z, hz⟩ : ∃ z, s.le.ti = z := ⟨_, rfl⟩
  rw [hz] at k38 ht ⊢
  have hw : IntKind.i64.wrap (10 * z) = 10 * z := i64_in _ (by omega)
  clear hO hz
  go_enter Try.func56, Try.ntmps56
  go_wp2_with fail
  go_ret
  first | exact ⟨by rw [hw], rfl⟩ | exact ⟨rfl, rfl⟩
theorem none1 (w : World) (g m : Nat) (hO : Ob w g 84 #[.pointer (some ⟨m, 0, none⟩)]) : Calls Try.prog 48 #[.pointer (some ⟨g, 0, none⟩)] w fun x w' => x = .returned (.bool false) ∧ w = w' := by
  have k0 := hO.cell 0
  clear hO
  go_enter Try.func48, Try.ntmps48
  go_wp2_with fail
  go_ret
  exact ⟨rfl, rfl⟩
/-- What is sent lies in memory of its own. -/
def SendE (L : List Lm) (w : World) (x : Ending) (w' : World) : Prop := ∃ A n c, x = .returned (.slice A n c) ∧ L.length = n ∧ RdS w' A n 16 (rws Lm.enc L) ∧ (∀ b off, A = some ⟨b, off, none⟩ → w.heap.size ≤ b) ∧ Only [] w w'
theorem send_none (w w' : World) (o : Only [] w w') : SendE [] w (.returned (.slice none 0 0)) w' := ⟨none, 0, 0, rfl, rfl, RdS.zero _ _ _, by simp, o⟩
theorem send_one (w w' : World) (l : Lm) (o : Only [] w w') : SendE [l] w (.returned (.slice (some ⟨w'.heap.size, 0, none⟩) 1 1)) (w'.alloc (.cells l.cs 27)) := ⟨_, 1, 1, rfl, rfl, rdS_lm w' l, fun b off e => by injection e with e; injection e with e; have := o.size; omega, o.alloc _⟩
/-- A message as it is sent. -/
def Mc.sent (s : Mc) (ty ak sv : Int) : Lm := ⟨1, s.id, 0, s.c0, s.c1, s.c2, s.c3, s.c4, s.c5, ty, sv, ak, 0, 0, 0, 0⟩
set_option maxRecDepth 100000 in
set_option maxHeartbeats 4000000 in
theorem message1 (w : World) (m : Nat) (T : TypeId) (tl : List Value) (s : Mc) (ty ak sv : Int) (hO : Ob w m T (s.cs tl)) :
    Calls Try.prog 57 #[.pointer (some ⟨m, 0, none⟩), .agg (⟨0, 0, 0, 0, 0, 0, 0, 0, 0, ty, sv, ak, 0, 0, 0, 0⟩ : Lm).cs] w (SendE [s.sent ty ak sv] w) := by
  obtain ⟨l, hl⟩ : ∃ l : Lm, ⟨0, 0, 0, 0, 0, 0, 0, 0, 0, ty, sv, ak, 0, 0, 0, 0⟩ = l := ⟨_, rfl⟩
  have HL := hid hl
  rw [hl]
  clear hl
  obtain ⟨b, hb⟩ : ∃ b, w.heap.size = b := ⟨_, rfl⟩
  obtain ⟨W1, hW1⟩ : ∃ W1, w.alloc (.cells l.cs 27) = W1 := ⟨_, rfl⟩
  have OB : Hid (Ob W1 b 27 l.cs) := hid (by rw [← hW1, ← hb]; exact Ob.new _ _ _)
  have o1 : Only [] w W1 := by rw [← hW1]; exact (Only.refl [] w).alloc _
  have OM := hid (hO.only o1 (by simp))
  have HN : Hid (m ∉ [b]) := hid (by have := hO.lt; simp; omega)
  have HW : Hid (w.heap.size ≤ b) := hid (by omega)
  have QW := hid o1
  clear hO o1
  go_enter Try.func57, Try.ntmps57
  go_wp2_with fail
  try rw [hb]
  clear hW1 hb
  refine wp_region_noPanic ?_
  refine rgn.regionT (R := Only [b]) (by kernel_rfl) (Only.refl [b]) (fun _ _ _ => Only.trans) (fun _ _ _ _ _ h => h) (.y 0 (.y 1 (.y 2 (.y 3 (.y 4 (.y 5 (.y 6 (.y 7 (.y 8 (.e 9 (.y 10 (.e 11 (.y 12 (.e 13 .z)))))))))))))) (by kernel_rfl) (fun W hWd => ?_)
  have HWd := hid hWd; clear hWd
  have q8 : Only [] W1 W := Only.eq_drew (Only.refl [] _) HWd.out
  have OM := hid (OM.out.only q8 (by simp)); have OB := hid (OB.out.only q8 (by simp)); have QW := hid (QW.out.trans q8)
  clear q8 HWd
  refine rgn.Walk.ys (v := ?_) rfl rfl rfl ?_ ?_
  rotate_left 1
  · intro W' hW'
    go_simp
    try with_reducible rfl
  try simp only [Act.put, List.setIfInBounds_toArray, List.set_cons_zero, List.set_cons_succ]
  refine rgn.Walk.ys (v := ?_) rfl rfl rfl ?_ ?_
  rotate_left 1
  · intro W' hW'
    go_simp
    try with_reducible rfl
  try simp only [Act.put, List.setIfInBounds_toArray, List.set_cons_zero, List.set_cons_succ]
  refine rgn.Walk.ys (v := ?_) rfl rfl rfl ?_ ?_
  rotate_left 1
  · intro W' hW'
    go_simp
    try with_reducible rfl
  try simp only [Act.put, List.setIfInBounds_toArray, List.set_cons_zero, List.set_cons_succ]
  refine rgn.Walk.ys (v := ?_) rfl rfl rfl ?_ ?_
  rotate_left 1
  · intro W' hW'
    have q0 := k_id (OM.out.only hW' HN.out)
    go_simp
    try with_reducible rfl
  try simp only [Act.put, List.setIfInBounds_toArray, List.set_cons_zero, List.set_cons_succ]
  refine rgn.Walk.ys (v := ?_) rfl rfl rfl ?_ ?_
  rotate_left 1
  · intro W' hW'
    go_simp
    try with_reducible rfl
  try simp only [Act.put, List.setIfInBounds_toArray, List.set_cons_zero, List.set_cons_succ]
  refine rgn.Walk.ys (v := ?_) rfl rfl rfl ?_ ?_
  rotate_left 1
  · intro W' hW'
    go_simp
    try with_reducible rfl
  try simp only [Act.put, List.setIfInBounds_toArray, List.set_cons_zero, List.set_cons_succ]
  refine rgn.Walk.ys (v := ?_) rfl rfl rfl ?_ ?_
  rotate_left 1
  · intro W' hW'
    go_simp
    try with_reducible rfl
  try simp only [Act.put, List.setIfInBounds_toArray, List.set_cons_zero, List.set_cons_succ]
  refine rgn.Walk.ys rfl rfl rfl (fun W' hW' => exec_mac _ _ rfl m 0 rfl _ _ _ _ _ _ (r_mac (OM.out.only hW' HN.out)) Try.underlying25 rfl (by kernel_rfl)) ?_
  try simp only [Act.put, List.setIfInBounds_toArray, List.set_cons_zero, List.set_cons_succ]
  refine rgn.Walk.ys (v := ?_) rfl rfl rfl ?_ ?_
  rotate_left 1
  · intro W' hW'
    go_simp
    try with_reducible rfl
  try simp only [Act.put, List.setIfInBounds_toArray, List.set_cons_zero, List.set_cons_succ]
  refine rgn.Walk.es ?_
  refine rgn.stepE rfl rfl (fun K hK => ?_)
  refine op_put _ _ _ rfl b 0 rfl (.int .i64 1) rfl OB.out (by kernel_rfl) (show _ ≤ 16 from Nat.le_of_ble_eq_true rfl) (one_i _ _) (q_op OB.out 1) (fun W9 hb9 o9 => ?_)
  refine hK _ _ o9 ?_
  clear hK K
  try simp only [Act.put, List.setIfInBounds_toArray, List.set_cons_zero, List.set_cons_succ]
  have OB := hid hb9
  have QW := hid (QW.out.fresh o9 (fun i hi => .inr (by rw [List.mem_singleton.1 hi]; exact HW.out)))
  clear hb9 o9
  refine rgn.Walk.ys (v := ?_) rfl rfl rfl ?_ ?_
  rotate_left 1
  · intro W' hW'
    go_simp
    try with_reducible rfl
  try simp only [Act.put, List.setIfInBounds_toArray, List.set_cons_zero, List.set_cons_succ]
  refine rgn.Walk.es ?_
  refine rgn.stepE rfl rfl (fun K hK => ?_)
  refine op_put _ _ _ rfl b 1 rfl (.int .u32 s.id) rfl OB.out (by kernel_rfl) (show _ ≤ 16 from Nat.le_of_ble_eq_true rfl) (one_i _ _) (q_id OB.out s.id) (fun W11 hb9 o9 => ?_)
  refine hK _ _ o9 ?_
  clear hK K
  try simp only [Act.put, List.setIfInBounds_toArray, List.set_cons_zero, List.set_cons_succ]
  have OB := hid hb9
  have QW := hid (QW.out.fresh o9 (fun i hi => .inr (by rw [List.mem_singleton.1 hi]; exact HW.out)))
  clear hb9 o9
  refine rgn.Walk.ys (v := ?_) rfl rfl rfl ?_ ?_
  rotate_left 1
  · intro W' hW'
    go_simp
    try with_reducible rfl
  try simp only [Act.put, List.setIfInBounds_toArray, List.set_cons_zero, List.set_cons_succ]
  refine rgn.Walk.es ?_
  refine rgn.stepE rfl rfl (fun K hK => ?_)
  refine op_put _ _ _ rfl b 3 rfl (.agg #[.int .u8 s.c0, .int .u8 s.c1, .int .u8 s.c2, .int .u8 s.c3, .int .u8 s.c4, .int .u8 s.c5]) rfl OB.out (by kernel_rfl) (show _ ≤ 16 from Nat.le_of_ble_eq_true rfl) (one_m _ _ _ _ _ _) (p_mac OB.out s.c0 s.c1 s.c2 s.c3 s.c4 s.c5) (fun W13 hb9 o9 => ?_)
  refine hK _ _ o9 ?_
  clear hK K
  try simp only [Act.put, List.setIfInBounds_toArray, List.set_cons_zero, List.set_cons_succ]
  have OB := hid hb9
  have QW := hid (QW.out.fresh o9 (fun i hi => .inr (by rw [List.mem_singleton.1 hi]; exact HW.out)))
  clear hb9 o9
  refine rgn.Walk.zs (NoPanic.normal ?_)
  go_wp2_with (first | (refine wp_lm rfl 27 _ rfl b 0 rfl _ (r_all OB.out) Try.underlying27 rfl (by kernel_rfl) ?_; try simp only [Act.put, List.setIfInBounds_toArray, List.set_cons_zero, List.set_cons_succ]; simp only [Lm.cs, Lm.enc]) | fail)
  go_ret
  have hl := HL.out
  subst hl
  exact send_one w W13 (s.sent ty ak sv) QW.out
set_option maxRecDepth 100000 in
theorem discover1 (w : World) (m : Nat) (T : TypeId) (tl : List Value) (s : Mc) (hO : Ob w m T (s.cs tl)) :
    Calls Try.prog 64 #[.pointer (some ⟨m, 0, none⟩)] w (SendE [s.sent 1 0 0] w) := by
  have HC := hid (message1 w m T tl s 1 0 0 hO)
  clear hO
  go_enter Try.func64, Try.ntmps64
  go_wp2_with fail
  refine HC.out.mono ?_
  rintro x w2 ⟨A, n, c, rfl, hn, hr, hf, o2⟩
  have HF := hid hf; have HR := hid hr; have HN := hid hn; have Q := hid o2
  clear hn hr hf o2
  go_wp2_with fail
  go_ret
  exact ⟨A, n, c, rfl, HN.out, HR.out, HF.out, Q.out⟩
set_option maxRecDepth 100000 in
theorem request1 (w : World) (m : Nat) (T : TypeId) (tl : List Value) (s : Mc) (hO : Ob w m T (s.cs tl)) :
    Calls Try.prog 62 #[.pointer (some ⟨m, 0, none⟩)] w (SendE [s.sent 3 s.of.yo s.of.sv] w) := by
  have OM := hid hO
  clear hO
  go_enter Try.func62, Try.ntmps62
  go_wp2_with fail
  refine wp_region_noPanic ?_
  refine rgn.regionT (R := Only []) (by kernel_rfl) (Only.refl []) (fun _ _ _ => Only.trans) (fun _ _ _ _ _ h => h) (.y 0 (.y 1 (.y 2 (.y 3 (.y 4 (.y 5 (.y 6 (.y 7 (.y 8 (.y 9 (.y 10 (.y 11 (.e 12 (.e 13 .z)))))))))))))) (by kernel_rfl) (fun W hWd => ?_)
  have HWd := hid hWd; clear hWd
  have q8 : Only [] w W := Only.eq_drew (Only.refl [] _) HWd.out
  have OM := hid (OM.out.only q8 (by simp)); have Q := hid q8; have HZ := hid q8.size
  clear q8 HWd
  refine rgn.Walk.ys (v := ?_) rfl rfl rfl ?_ ?_
  rotate_left 1
  · intro W' hW'
    go_simp
    try with_reducible rfl
  try simp only [Act.put, List.setIfInBounds_toArray, List.set_cons_zero, List.set_cons_succ]
  refine rgn.Walk.ys (v := ?_) rfl rfl rfl ?_ ?_
  rotate_left 1
  · intro W' hW'
    go_simp
    try with_reducible rfl
  try simp only [Act.put, List.setIfInBounds_toArray, List.set_cons_zero, List.set_cons_succ]
  refine rgn.Walk.ys (v := ?_) rfl rfl rfl ?_ ?_
  rotate_left 1
  · intro W' hW'
    go_simp
    try with_reducible rfl
  try simp only [Act.put, List.setIfInBounds_toArray, List.set_cons_zero, List.set_cons_succ]
  refine rgn.Walk.ys (v := ?_) rfl rfl rfl ?_ ?_
  rotate_left 1
  · intro W' hW'
    go_simp
    try with_reducible rfl
  try simp only [Act.put, List.setIfInBounds_toArray, List.set_cons_zero, List.set_cons_succ]
  refine rgn.Walk.ys (v := ?_) rfl rfl rfl ?_ ?_
  rotate_left 1
  · intro W' hW'
    go_simp
    try with_reducible rfl
  try simp only [Act.put, List.setIfInBounds_toArray, List.set_cons_zero, List.set_cons_succ]
  refine rgn.Walk.ys (v := ?_) rfl rfl rfl ?_ ?_
  rotate_left 1
  · intro W' hW'
    have q0 := k_of_yo (OM.out.only hW' (by simp))
    go_simp
    try with_reducible rfl
  try simp only [Act.put, List.setIfInBounds_toArray, List.set_cons_zero, List.set_cons_succ]
  refine rgn.Walk.ys (v := ?_) rfl rfl rfl ?_ ?_
  rotate_left 1
  · intro W' hW'
    go_simp
    try with_reducible rfl
  try simp only [Act.put, List.setIfInBounds_toArray, List.set_cons_zero, List.set_cons_succ]
  refine rgn.Walk.ys (v := ?_) rfl rfl rfl ?_ ?_
  rotate_left 1
  · intro W' hW'
    go_simp
    try with_reducible rfl
  try simp only [Act.put, List.setIfInBounds_toArray, List.set_cons_zero, List.set_cons_succ]
  refine rgn.Walk.ys (v := ?_) rfl rfl rfl ?_ ?_
  rotate_left 1
  · intro W' hW'
    go_simp
    try with_reducible rfl
  try simp only [Act.put, List.setIfInBounds_toArray, List.set_cons_zero, List.set_cons_succ]
  refine rgn.Walk.ys (v := ?_) rfl rfl rfl ?_ ?_
  rotate_left 1
  · intro W' hW'
    go_simp
    try with_reducible rfl
  try simp only [Act.put, List.setIfInBounds_toArray, List.set_cons_zero, List.set_cons_succ]
  refine rgn.Walk.ys (v := ?_) rfl rfl rfl ?_ ?_
  rotate_left 1
  · intro W' hW'
    have q0 := k_of_sv (OM.out.only hW' (by simp))
    go_simp
    try with_reducible rfl
  try simp only [Act.put, List.setIfInBounds_toArray, List.set_cons_zero, List.set_cons_succ]
  refine rgn.Walk.ys (v := ?_) rfl rfl rfl ?_ ?_
  rotate_left 1
  · intro W' hW'
    go_simp
    try with_reducible rfl
  try simp only [Act.put, List.setIfInBounds_toArray, List.set_cons_zero, List.set_cons_succ]
  refine rgn.Walk.es ?_
  refine rgn.stepE rfl rfl (fun K hK => ?_)
  have hc9 := message1 _ m T tl s 3 s.of.yo s.of.sv OM.out
  clear hc9
  go_simp
  refine (message1 _ m T tl s 3 s.of.yo s.of.sv OM.out).mono ?_
  rintro x w2 ⟨A, n, c, rfl, hn, hr, hf, o2⟩
  refine hK _ _ o2 ?_
  clear hK K
  try simp only [Act.put, List.setIfInBounds_toArray, List.set_cons_zero, List.set_cons_succ]
  have HF := hid hf; have HR := hid hr; have HN := hid hn; have Q := hid (Q.out.trans o2)
  clear hn hr hf o2
  refine rgn.Walk.es ?_
  refine rgn.stepE rfl rfl (fun K hK => ?_)
  go_simp
  refine hK _ _ ((Only.refl []) _) ?_
  clear hK K
  try simp only [Act.put, List.setIfInBounds_toArray, List.set_cons_zero, List.set_cons_succ]
  refine rgn.Walk.zs (NoPanic.normal ?_)
  go_wp2_with fail
  go_ret
  exact ⟨A, n, c, rfl, HN.out, HR.out, fun b off e => Nat.le_trans HZ.out (HF.out b off e), Q.out⟩
set_option maxRecDepth 100000 in
set_option maxHeartbeats 4000000 in
theorem sends1 (w : World) (m : Nat) (T : TypeId) (tl : List Value) (s : Mc) (ty ak sv : Int) (hO : Ob w m T (s.cs tl)) :
    Calls Try.prog 52 #[.pointer (some ⟨m, 0, none⟩), .int .i64 ty, .int .u32 ak, .int .u32 sv] w (SendE [s.sent ty ak sv] w) := by
  have OM := hid hO
  clear hO
  go_enter Try.func52, Try.ntmps52
  go_wp2_with fail
  refine wp_region_noPanic ?_
  refine rgn.regionT (R := Only []) (by kernel_rfl) (Only.refl []) (fun _ _ _ => Only.trans) (fun _ _ _ _ _ h => h) (.y 0 (.y 1 (.y 2 (.y 3 (.y 4 (.y 5 (.y 6 (.y 7 (.y 8 (.y 9 (.y 10 (.y 11 (.e 12 (.e 13 .z)))))))))))))) (by kernel_rfl) (fun W hWd => ?_)
  have HWd := hid hWd; clear hWd
  have q8 : Only [] w W := Only.eq_drew (Only.refl [] _) HWd.out
  have OM := hid (OM.out.only q8 (by simp)); have Q := hid q8; have HZ := hid q8.size
  clear q8 HWd
  refine rgn.Walk.ys (v := ?_) rfl rfl rfl ?_ ?_
  rotate_left 1
  · intro W' hW'
    go_simp
    try with_reducible rfl
  try simp only [Act.put, List.setIfInBounds_toArray, List.set_cons_zero, List.set_cons_succ]
  refine rgn.Walk.ys (v := ?_) rfl rfl rfl ?_ ?_
  rotate_left 1
  · intro W' hW'
    go_simp
    try with_reducible rfl
  try simp only [Act.put, List.setIfInBounds_toArray, List.set_cons_zero, List.set_cons_succ]
  refine rgn.Walk.ys (v := ?_) rfl rfl rfl ?_ ?_
  rotate_left 1
  · intro W' hW'
    go_simp
    try with_reducible rfl
  try simp only [Act.put, List.setIfInBounds_toArray, List.set_cons_zero, List.set_cons_succ]
  refine rgn.Walk.ys (v := ?_) rfl rfl rfl ?_ ?_
  rotate_left 1
  · intro W' hW'
    have q0 := k_id (OM.out.only hW' (by simp))
    go_simp
    try with_reducible rfl
  try simp only [Act.put, List.setIfInBounds_toArray, List.set_cons_zero, List.set_cons_succ]
  refine rgn.Walk.ys (v := ?_) rfl rfl rfl ?_ ?_
  rotate_left 1
  · intro W' hW'
    go_simp
    try with_reducible rfl
  try simp only [Act.put, List.setIfInBounds_toArray, List.set_cons_zero, List.set_cons_succ]
  refine rgn.Walk.ys (v := ?_) rfl rfl rfl ?_ ?_
  rotate_left 1
  · intro W' hW'
    go_simp
    try with_reducible rfl
  try simp only [Act.put, List.setIfInBounds_toArray, List.set_cons_zero, List.set_cons_succ]
  refine rgn.Walk.ys (v := ?_) rfl rfl rfl ?_ ?_
  rotate_left 1
  · intro W' hW'
    go_simp
    try with_reducible rfl
  try simp only [Act.put, List.setIfInBounds_toArray, List.set_cons_zero, List.set_cons_succ]
  refine rgn.Walk.ys rfl rfl rfl (fun W' hW' => exec_mac _ _ rfl m 0 rfl _ _ _ _ _ _ (r_mac (OM.out.only hW' (by simp))) Try.underlying25 rfl (by kernel_rfl)) ?_
  try simp only [Act.put, List.setIfInBounds_toArray, List.set_cons_zero, List.set_cons_succ]
  refine rgn.Walk.ys (v := ?_) rfl rfl rfl ?_ ?_
  rotate_left 1
  · intro W' hW'
    go_simp
    try with_reducible rfl
  try simp only [Act.put, List.setIfInBounds_toArray, List.set_cons_zero, List.set_cons_succ]
  refine rgn.Walk.ys (v := ?_) rfl rfl rfl ?_ ?_
  rotate_left 1
  · intro W' hW'
    go_simp
    try with_reducible rfl
  try simp only [Act.put, List.setIfInBounds_toArray, List.set_cons_zero, List.set_cons_succ]
  refine rgn.Walk.ys (v := ?_) rfl rfl rfl ?_ ?_
  rotate_left 1
  · intro W' hW'
    go_simp
    try with_reducible rfl
  try simp only [Act.put, List.setIfInBounds_toArray, List.set_cons_zero, List.set_cons_succ]
  refine rgn.Walk.ys (v := ?_) rfl rfl rfl ?_ ?_
  rotate_left 1
  · intro W' hW'
    go_simp
    try with_reducible rfl
  try simp only [Act.put, List.setIfInBounds_toArray, List.set_cons_zero, List.set_cons_succ]
  refine rgn.Walk.es ?_
  refine rgn.stepE rfl rfl (fun K hK => ?_)
  go_simp
  refine hK _ _ ((Only.refl [] _).alloc _) ?_
  clear hK K
  try simp only [Act.put, List.setIfInBounds_toArray, List.set_cons_zero, List.set_cons_succ]
  refine rgn.Walk.es ?_
  refine rgn.stepE rfl rfl (fun K hK => ?_)
  go_simp
  refine hK _ _ ((Only.refl []) _) ?_
  clear hK K
  try simp only [Act.put, List.setIfInBounds_toArray, List.set_cons_zero, List.set_cons_succ]
  refine rgn.Walk.zs (NoPanic.normal ?_)
  go_wp2_with fail
  go_ret
  exact send_one w _ (s.sent ty ak sv) Q.out
end Go.Proofs.Ytdpmjghdmpaehaa.lp
/-
  Chapter 23 (lease): begin, bind and granted of the program, by a walk of each text. Conditions: none but those typed.
-/
namespace Go.Proofs.Ytdpmjghdmpaehaa.lp
set_option linter.unusedVariables false
set_option linter.unusedSimpArgs false
open Go.ChangeShapes Go.WideShapes Go.ChangeAt Go.RowKit Go.IntWalk Go.Lib
def I64 (x : Int) : Prop := -9223372036854775808 ≤ x ∧ x ≤ 9223372036854775807
def Tk (x : Int) : Prop := 0 ≤ x ∧ x ≤ 9223372036854775807
def Mc.begin (s : Mc) (now draw : Int) : Mc := {s with st := 1, of := Lm.zero, le := Lm.zero, id := IntKind.u32.wrap draw, tr := 1, due := laterZ now 40}
/-- What was granted, as it is kept. -/
def Lm.kept (l : Lm) (sv : Int) : Lm := {l with sv := if l.sv = 0 then sv else l.sv, ti := min (if l.ti < 1 then 3600 else l.ti) 2147483647}
def Mc.bound (s : Mc) (l : Lm) (sv now : Int) : Mc := {s with st := 3, le := l.kept sv, be := now, due := laterZ now (10 * (l.kept sv).ti / 2)}
/-- A step of a client. -/
def StepE (m : Nat) (T : TypeId) (tl : List Value) (s' : Mc) (L : List Lm) (w : World) (x : Ending) (w' : World) : Prop := ∃ A n c, x = .returned (.slice A n c) ∧ L.length = n ∧ RdS w' A n 16 (rws Lm.enc L) ∧ (∀ b off, A = some ⟨b, off, none⟩ → w.heap.size ≤ b) ∧ Ob w' m T (s'.cs tl) ∧ Only [m] w w'
theorem step_none {m : Nat} {T : TypeId} {tl : List Value} {s : Mc} {w w' : World} (h : Ob w' m T (s.cs tl)) (o : Only [m] w w') : StepE m T tl s [] w (.returned (.slice none 0 0)) w' := ⟨none, 0, 0, rfl, rfl, RdS.zero _ _ _, by simp, h, o⟩
theorem kept_bd (l : Lm) (sv : Int) : 1 ≤ (l.kept sv).ti ∧ (l.kept sv).ti ≤ 2147483647 := by
  unfold Lm.kept
  show 1 ≤ min (if l.ti < 1 then 3600 else l.ti) 2147483647 ∧ min (if l.ti < 1 then 3600 else l.ti) 2147483647 ≤ 2147483647
  split <;> omega
set_option maxRecDepth 100000 in
set_option maxHeartbeats 4000000 in
theorem begin1 (w : World) (m : Nat) (T : TypeId) (tl : List Value) (s : Mc) (now draw : Int) (hO : Ob w m T (s.cs tl)) (hn : Tk now) :
    Calls Try.prog 49 #[.pointer (some ⟨m, 0, none⟩), .int .i64 now, .int .i64 draw] w (StepE m T tl (s.begin now draw) [(s.begin now draw).sent 1 0 0] w) := by
  have OM := hid hO; have QM := hid (Only.refl [m] w); have HNow := hid hn
  clear hO hn
  go_enter Try.func49, Try.ntmps49
  go_wp2_with (first | (refine wp_put rfl _ _ _ rfl m 6 rfl (.int .i64 1) rfl OM.out (by kernel_rfl) (Nat.le_trans (show _ ≤ 43 from Nat.le_of_ble_eq_true rfl) (mcs_size _ _)) (one_i _ _) (p_st OM.out 1) ?_) | fail)
  intro W9 hb9 o9
  try simp only [Act.put, List.setIfInBounds_toArray, List.set_cons_zero, List.set_cons_succ]
  have OM := hid hb9; have QM := hid (QM.out.trans o9)
  clear hb9 o9
  go_wp2_with (first | (refine wp_put rfl _ _ _ rfl m 10 rfl (.agg Lm.zero.cs) rfl OM.out (by kernel_rfl) (Nat.le_trans (show _ ≤ 43 from Nat.le_of_ble_eq_true rfl) (mcs_size _ _)) (one_l _) (p_of OM.out Lm.zero) ?_) | fail)
  intro W9 hb9 o9
  try simp only [Act.put, List.setIfInBounds_toArray, List.set_cons_zero, List.set_cons_succ]
  have OM := hid hb9; have QM := hid (QM.out.trans o9)
  clear hb9 o9
  go_wp2_with (first | (refine wp_put rfl _ _ _ rfl m 26 rfl (.agg Lm.zero.cs) rfl OM.out (by kernel_rfl) (Nat.le_trans (show _ ≤ 43 from Nat.le_of_ble_eq_true rfl) (mcs_size _ _)) (one_l _) (p_le OM.out Lm.zero) ?_) | fail)
  intro W9 hb9 o9
  try simp only [Act.put, List.setIfInBounds_toArray, List.set_cons_zero, List.set_cons_succ]
  have OM := hid hb9; have QM := hid (QM.out.trans o9)
  clear hb9 o9
  go_wp2_with (first | (refine wp_put rfl _ _ _ rfl m 7 rfl (.int .u32 (IntKind.u32.wrap draw)) rfl OM.out (by kernel_rfl) (Nat.le_trans (show _ ≤ 43 from Nat.le_of_ble_eq_true rfl) (mcs_size _ _)) (one_i _ _) (p_id OM.out (IntKind.u32.wrap draw)) ?_) | fail)
  intro W9 hb9 o9
  try simp only [Act.put, List.setIfInBounds_toArray, List.set_cons_zero, List.set_cons_succ]
  have OM := hid hb9; have QM := hid (QM.out.trans o9)
  clear hb9 o9
  go_wp2_with (first | (refine wp_put rfl _ _ _ rfl m 9 rfl (.int .i64 1) rfl OM.out (by kernel_rfl) (Nat.le_trans (show _ ≤ 43 from Nat.le_of_ble_eq_true rfl) (mcs_size _ _)) (one_i _ _) (p_tr OM.out 1) ?_) | fail)
  intro W9 hb9 o9
  try simp only [Act.put, List.setIfInBounds_toArray, List.set_cons_zero, List.set_cons_succ]
  have OM := hid hb9; have QM := hid (QM.out.trans o9)
  clear hb9 o9
  go_wp2_with fail
  refine (later1 _ now 40 (by omega) ⟨by have := HNow.out; unfold Tk at this; omega, HNow.out.2⟩).mono ?_
  rintro x w2 ⟨rfl, rfl⟩
  go_wp2_with (first | (refine wp_put rfl _ _ _ rfl m 8 rfl (.int .i64 (laterZ now 40)) rfl OM.out (by kernel_rfl) (Nat.le_trans (show _ ≤ 43 from Nat.le_of_ble_eq_true rfl) (mcs_size _ _)) (one_i _ _) (p_due OM.out (laterZ now 40)) ?_) | fail)
  intro W9 hb9 o9
  try simp only [Act.put, List.setIfInBounds_toArray, List.set_cons_zero, List.set_cons_succ]
  have OM := hid hb9; have QM := hid (QM.out.trans o9)
  clear hb9 o9
  go_wp2_with fail
  refine (discover1 _ m T tl _ OM.out).mono ?_
  rintro x w3 ⟨A, n, c, rfl, hl, hr, hf, o3⟩
  have HL := hid hl; have HR := hid hr; have HF := hid hf; have OM := hid (OM.out.only o3 (by simp)); have HZ := hid QM.out.size; have QM := hid (QM.out.trans (o3.more (by simp)))
  clear hl hr hf o3
  go_wp2_with fail
  go_ret
  exact ⟨A, n, c, rfl, HL.out, HR.out, fun b off e => Nat.le_trans HZ.out (HF.out b off e), OM.out, QM.out⟩
set_option maxRecDepth 100000 in
set_option maxHeartbeats 8000000 in
theorem bind1 (w : World) (m : Nat) (T : TypeId) (tl : List Value) (s : Mc) (l : Lm) (sv now : Int) (hO : Ob w m T (s.cs tl)) (hn : Tk now) :
    Calls Try.prog 67 #[.pointer (some ⟨m, 0, none⟩), .agg l.cs, .int .u32 sv, .int .i64 now] w (fun x w' => x = .returned (.tuple #[]) ∧ Ob w' m T ((s.bound l sv now).cs tl) ∧ Only [m] w w') := by
  have HNow := hid hn
  obtain ⟨b, hb⟩ : ∃ b, w.heap.size = b := ⟨_, rfl⟩
  obtain ⟨W1, hW1⟩ : ∃ W1, w.alloc (.cells l.cs 27) = W1 := ⟨_, rfl⟩
  have OB : Hid (Ob W1 b 27 l.cs) := hid (by rw [← hW1, ← hb]; exact Ob.new _ _ _)
  have o1 : Only [] w W1 := by rw [← hW1]; exact (Only.refl [] w).alloc _
  have OM := hid (hO.only o1 (by simp))
  have HN : Hid (m ≠ b) := hid (by have := hO.lt; omega)
  have HW : Hid (w.heap.size ≤ b) := hid (by omega)
  have QM : Hid (Only [m] w W1) := hid (o1.more (by simp))
  have HKB := hid (kept_bd l sv)
  obtain ⟨y, hy⟩ : ∃ y, (if l.ti < 2147483647 then l.ti else 2147483647) = y := ⟨_, rfl⟩
  have hy2 : (if 2147483647 < l.ti then 2147483647 else l.ti) = y := by rw [← hy]; split <;> split <;> omega
  have HY : Hid (y = min l.ti 2147483647) := hid (by rw [← hy]; split <;> omega)
  clear hO o1 hn
  by_cases hsv : l.sv = 0
  · by_cases hti : l.ti < 1
    · have e1 : (l.sv == 0) = true := by simp [hsv]
      have HSV := hid hsv; have HTI := hid hti
      clear hsv
      clear hy hy2
      have e2 := l_sv OB.out; have e3 := l_ti OB.out
      go_enter Try.func67, Try.ntmps67
      go_wp2_with (first | (refine wp_put rfl _ _ _ rfl b 10 rfl (.int .u32 sv) rfl OB.out (by kernel_rfl) (show _ ≤ 16 from Nat.le_of_ble_eq_true rfl) (one_i _ _) (q_sv OB.out sv) ?_) | fail)
      intro W9 hb9 o9
      try simp only [Act.put, List.setIfInBounds_toArray, List.set_cons_zero, List.set_cons_succ]
      have OB := hid hb9; have OM := hid (OM.out.only o9 (by simpa using HN.out)); have QM := hid (QM.out.fresh o9 (fun i hi => .inr (by rw [List.mem_singleton.1 hi]; exact HW.out)))
      clear hb9 o9
      clear e2 e3
      have e3 : W9.cell? ⟨b, 12, none⟩ = some (.int .i64 l.ti) := by have h9 := l_ti OB.out; exact h9
      go_wp2_with (first | (refine wp_put rfl _ _ _ rfl b 12 rfl (.int .i64 3600) rfl OB.out (by kernel_rfl) (show _ ≤ 16 from Nat.le_of_ble_eq_true rfl) (one_i _ _) (q_ti OB.out 3600) ?_) | fail)
      intro W9 hb9 o9
      try simp only [Act.put, List.setIfInBounds_toArray, List.set_cons_zero, List.set_cons_succ]
      have OB := hid hb9; have OM := hid (OM.out.only o9 (by simpa using HN.out)); have QM := hid (QM.out.fresh o9 (fun i hi => .inr (by rw [List.mem_singleton.1 hi]; exact HW.out)))
      clear hb9 o9
      clear e3
      have e3 : W9.cell? ⟨b, 12, none⟩ = some (.int .i64 3600) := by have h9 := l_ti OB.out; exact h9
      go_wp2_with (first | (refine wp_put rfl _ _ _ rfl b 12 rfl (.int .i64 3600) rfl OB.out (by kernel_rfl) (show _ ≤ 16 from Nat.le_of_ble_eq_true rfl) (one_i _ _) (q_ti OB.out 3600) ?_) | fail)
      intro W9 hb9 o9
      try simp only [Act.put, List.setIfInBounds_toArray, List.set_cons_zero, List.set_cons_succ]
      have OB := hid hb9; have OM := hid (OM.out.only o9 (by simpa using HN.out)); have QM := hid (QM.out.fresh o9 (fun i hi => .inr (by rw [List.mem_singleton.1 hi]; exact HW.out)))
      clear hb9 o9
      clear e1 e3 hti
      have hk : Ob W9 b 27 (l.kept sv).cs := by
        have h9 := OB.out
        unfold Lm.kept
        rw [if_pos HSV.out, if_pos (by have := HTI.out; omega)]
        exact h9
      have OB := hid hk
      clear hk
      go_wp2_with fail
      refine wp_region_noPanic ?_
      refine rgn.regionT (R := Only [m]) (by kernel_rfl) (Only.refl [m]) (fun _ _ _ => Only.trans) (fun _ _ _ _ _ h => h) (.y 0 (.y 1 (.y 2 (.y 3 (.y 4 (.y 5 (.y 6 (.e 7 (.y 8 (.y 9 (.e 10 (.y 11 (.y 12 (.e 13 .z)))))))))))))) (by kernel_rfl) (fun W hWd => ?_)
      have HWd := hid hWd; clear hWd
      have q8 : Only [] W9 W := Only.eq_drew (Only.refl [] _) HWd.out
      have OM := hid (OM.out.only q8 (by simp)); have OB := hid (OB.out.only q8 (by simp)); have QM := hid (QM.out.trans (q8.more (by simp)))
      clear q8 HWd
      refine rgn.Walk.ys (v := ?_) rfl rfl rfl ?_ ?_
      rotate_left 1
      · intro W' hW'
        go_simp
        try with_reducible rfl
      try simp only [Act.put, List.setIfInBounds_toArray, List.set_cons_zero, List.set_cons_succ]
      refine rgn.Walk.ys (v := ?_) rfl rfl rfl ?_ ?_
      rotate_left 1
      · intro W' hW'
        go_simp
        try with_reducible rfl
      try simp only [Act.put, List.setIfInBounds_toArray, List.set_cons_zero, List.set_cons_succ]
      refine rgn.Walk.ys (v := ?_) rfl rfl rfl ?_ ?_
      rotate_left 1
      · intro W' hW'
        go_simp
        try with_reducible rfl
      try simp only [Act.put, List.setIfInBounds_toArray, List.set_cons_zero, List.set_cons_succ]
      refine rgn.Walk.ys rfl rfl rfl (fun W' hW' => exec_lm _ _ rfl b 0 rfl (l.kept sv) (r_all (OB.out.only hW' (by simpa using fun e => HN.out e.symm))) Try.underlying27 rfl (by kernel_rfl)) ?_
      try simp only [Act.put, List.setIfInBounds_toArray, List.set_cons_zero, List.set_cons_succ]
      refine rgn.Walk.ys (v := ?_) rfl rfl rfl ?_ ?_
      rotate_left 1
      · intro W' hW'
        go_simp
        try with_reducible rfl
      try simp only [Act.put, List.setIfInBounds_toArray, List.set_cons_zero, List.set_cons_succ]
      refine rgn.Walk.ys (v := ?_) rfl rfl rfl ?_ ?_
      rotate_left 1
      · intro W' hW'
        go_simp
        try with_reducible rfl
      try simp only [Act.put, List.setIfInBounds_toArray, List.set_cons_zero, List.set_cons_succ]
      refine rgn.Walk.ys (v := ?_) rfl rfl rfl ?_ ?_
      rotate_left 1
      · intro W' hW'
        go_simp
        try with_reducible rfl
      try simp only [Act.put, List.setIfInBounds_toArray, List.set_cons_zero, List.set_cons_succ]
      refine rgn.Walk.es ?_
      refine rgn.stepE rfl rfl (fun K hK => ?_)
      refine op_put _ _ _ rfl m 6 rfl (.int .i64 3) rfl OM.out (by kernel_rfl) (Nat.le_trans (show _ ≤ 43 from Nat.le_of_ble_eq_true rfl) (mcs_size _ _)) (one_i _ _) (p_st OM.out 3) (fun W9 hb9 o9 => ?_)
      refine hK _ _ o9 ?_
      clear hK K
      try simp only [Act.put, List.setIfInBounds_toArray, List.set_cons_zero, List.set_cons_succ]
      have OM := hid hb9; have QM := hid (QM.out.trans o9)
      have OB := hid (OB.out.only o9 (by simpa using fun e => HN.out e.symm))
      clear hb9 o9
      refine rgn.Walk.ys (v := ?_) rfl rfl rfl ?_ ?_
      rotate_left 1
      · intro W' hW'
        go_simp
        try with_reducible rfl
      try simp only [Act.put, List.setIfInBounds_toArray, List.set_cons_zero, List.set_cons_succ]
      refine rgn.Walk.ys (v := ?_) rfl rfl rfl ?_ ?_
      rotate_left 1
      · intro W' hW'
        go_simp
        try with_reducible rfl
      try simp only [Act.put, List.setIfInBounds_toArray, List.set_cons_zero, List.set_cons_succ]
      refine rgn.Walk.es ?_
      refine rgn.stepE rfl rfl (fun K hK => ?_)
      refine op_put _ _ _ rfl m 26 rfl (.agg (l.kept sv).cs) rfl OM.out (by kernel_rfl) (Nat.le_trans (show _ ≤ 43 from Nat.le_of_ble_eq_true rfl) (mcs_size _ _)) (one_l _) (p_le OM.out (l.kept sv)) (fun W9 hb9 o9 => ?_)
      refine hK _ _ o9 ?_
      clear hK K
      try simp only [Act.put, List.setIfInBounds_toArray, List.set_cons_zero, List.set_cons_succ]
      have OM := hid hb9; have QM := hid (QM.out.trans o9)
      have OB := hid (OB.out.only o9 (by simpa using fun e => HN.out e.symm))
      clear hb9 o9
      refine rgn.Walk.ys (v := ?_) rfl rfl rfl ?_ ?_
      rotate_left 1
      · intro W' hW'
        go_simp
        try with_reducible rfl
      try simp only [Act.put, List.setIfInBounds_toArray, List.set_cons_zero, List.set_cons_succ]
      refine rgn.Walk.ys (v := ?_) rfl rfl rfl ?_ ?_
      rotate_left 1
      · intro W' hW'
        go_simp
        try with_reducible rfl
      try simp only [Act.put, List.setIfInBounds_toArray, List.set_cons_zero, List.set_cons_succ]
      refine rgn.Walk.es ?_
      refine rgn.stepE rfl rfl (fun K hK => ?_)
      refine op_put _ _ _ rfl m 42 rfl (.int .i64 now) rfl OM.out (by kernel_rfl) (Nat.le_trans (show _ ≤ 43 from Nat.le_of_ble_eq_true rfl) (mcs_size _ _)) (one_i _ _) (p_be OM.out now) (fun W9 hb9 o9 => ?_)
      refine hK _ _ o9 ?_
      clear hK K
      try simp only [Act.put, List.setIfInBounds_toArray, List.set_cons_zero, List.set_cons_succ]
      have OM := hid hb9; have QM := hid (QM.out.trans o9)
      have OB := hid (OB.out.only o9 (by simpa using fun e => HN.out e.symm))
      clear hb9 o9
      refine rgn.Walk.zs (NoPanic.normal ?_)
      go_wp2_with fail
      refine (dur1 _ m T tl _ OM.out (by have := HKB.out; exact ⟨by show 0 ≤ (l.kept sv).ti; omega, this.2⟩)).mono ?_
      rintro x w2 ⟨rfl, rfl⟩
      obtain ⟨z, hz⟩ : ∃ z, (l.kept sv).ti = z := ⟨_, rfl⟩
      have HZ := hid hz
      have HZB : Hid (1 ≤ z ∧ z ≤ 2147483647) := hid (by rw [← hz]; exact HKB.out)
      simp only [hz]
      have hzb := HZB.out
      clear hz
      have hq : IntKind.i64.wrap ((10 * z).tdiv 2) = 10 * z / 2 := by rw [Int.tdiv_eq_ediv_of_nonneg (by omega)]; exact i64_in _ (by omega)
      go_wp2_with fail
      refine (later1 _ now (10 * z / 2) (by omega) ⟨by have := HNow.out; unfold Tk at this; omega, HNow.out.2⟩).mono ?_
      rintro x w3 ⟨rfl, rfl⟩
      go_wp2_with (first | (refine wp_put rfl _ _ _ rfl m 8 rfl (.int .i64 (laterZ now (10 * z / 2))) rfl OM.out (by kernel_rfl) (Nat.le_trans (show _ ≤ 43 from Nat.le_of_ble_eq_true rfl) (mcs_size _ _)) (one_i _ _) (p_due OM.out (laterZ now (10 * z / 2))) ?_) | fail)
      intro W9 hb9 o9
      try simp only [Act.put, List.setIfInBounds_toArray, List.set_cons_zero, List.set_cons_succ]
      have OM := hid hb9; have QM := hid (QM.out.trans o9)
      clear hb9 o9
      go_wp2_with fail
      refine bodyPost_end (results_none rfl _ _ _) rfl ?_
      refine ⟨rfl, ?_, QM.out⟩
      have h9 := OM.out
      rw [← HZ.out] at h9
      exact h9
    · have e1 : (l.sv == 0) = true := by simp [hsv]
      have HSV := hid hsv; have HTI := hid hti
      clear hsv
      have e2 := l_sv OB.out; have e3 := l_ti OB.out
      go_enter Try.func67, Try.ntmps67
      go_wp2_with (first | (refine wp_put rfl _ _ _ rfl b 10 rfl (.int .u32 sv) rfl OB.out (by kernel_rfl) (show _ ≤ 16 from Nat.le_of_ble_eq_true rfl) (one_i _ _) (q_sv OB.out sv) ?_) | fail)
      intro W9 hb9 o9
      try simp only [Act.put, List.setIfInBounds_toArray, List.set_cons_zero, List.set_cons_succ]
      have OB := hid hb9; have OM := hid (OM.out.only o9 (by simpa using HN.out)); have QM := hid (QM.out.fresh o9 (fun i hi => .inr (by rw [List.mem_singleton.1 hi]; exact HW.out)))
      clear hb9 o9
      clear e2 e3
      have e3 : W9.cell? ⟨b, 12, none⟩ = some (.int .i64 l.ti) := by have h9 := l_ti OB.out; exact h9
      go_wp2_with (first | (refine wp_put rfl _ _ _ rfl b 12 rfl (.int .i64 y) rfl OB.out (by kernel_rfl) (show _ ≤ 16 from Nat.le_of_ble_eq_true rfl) (one_i _ _) (q_ti OB.out y) ?_) | fail)
      intro W9 hb9 o9
      try simp only [Act.put, List.setIfInBounds_toArray, List.set_cons_zero, List.set_cons_succ]
      have OB := hid hb9; have OM := hid (OM.out.only o9 (by simpa using HN.out)); have QM := hid (QM.out.fresh o9 (fun i hi => .inr (by rw [List.mem_singleton.1 hi]; exact HW.out)))
      clear hb9 o9
      clear e1 e3 hti hy hy2
      have hk : Ob W9 b 27 (l.kept sv).cs := by
        have h9 := OB.out
        unfold Lm.kept
        rw [if_pos HSV.out, if_neg (by have := HTI.out; omega)]
        rw [← HY.out]
        exact h9
      have OB := hid hk
      clear hk
      go_wp2_with fail
      refine wp_region_noPanic ?_
      refine rgn.regionT (R := Only [m]) (by kernel_rfl) (Only.refl [m]) (fun _ _ _ => Only.trans) (fun _ _ _ _ _ h => h) (.y 0 (.y 1 (.y 2 (.y 3 (.y 4 (.y 5 (.y 6 (.e 7 (.y 8 (.y 9 (.e 10 (.y 11 (.y 12 (.e 13 .z)))))))))))))) (by kernel_rfl) (fun W hWd => ?_)
      have HWd := hid hWd; clear hWd
      have q8 : Only [] W9 W := Only.eq_drew (Only.refl [] _) HWd.out
      have OM := hid (OM.out.only q8 (by simp)); have OB := hid (OB.out.only q8 (by simp)); have QM := hid (QM.out.trans (q8.more (by simp)))
      clear q8 HWd
      refine rgn.Walk.ys (v := ?_) rfl rfl rfl ?_ ?_
      rotate_left 1
      · intro W' hW'
        go_simp
        try with_reducible rfl
      try simp only [Act.put, List.setIfInBounds_toArray, List.set_cons_zero, List.set_cons_succ]
      refine rgn.Walk.ys (v := ?_) rfl rfl rfl ?_ ?_
      rotate_left 1
      · intro W' hW'
        go_simp
        try with_reducible rfl
      try simp only [Act.put, List.setIfInBounds_toArray, List.set_cons_zero, List.set_cons_succ]
      refine rgn.Walk.ys (v := ?_) rfl rfl rfl ?_ ?_
      rotate_left 1
      · intro W' hW'
        go_simp
        try with_reducible rfl
      try simp only [Act.put, List.setIfInBounds_toArray, List.set_cons_zero, List.set_cons_succ]
      refine rgn.Walk.ys rfl rfl rfl (fun W' hW' => exec_lm _ _ rfl b 0 rfl (l.kept sv) (r_all (OB.out.only hW' (by simpa using fun e => HN.out e.symm))) Try.underlying27 rfl (by kernel_rfl)) ?_
      try simp only [Act.put, List.setIfInBounds_toArray, List.set_cons_zero, List.set_cons_succ]
      refine rgn.Walk.ys (v := ?_) rfl rfl rfl ?_ ?_
      rotate_left 1
      · intro W' hW'
        go_simp
        try with_reducible rfl
      try simp only [Act.put, List.setIfInBounds_toArray, List.set_cons_zero, List.set_cons_succ]
      refine rgn.Walk.ys (v := ?_) rfl rfl rfl ?_ ?_
      rotate_left 1
      · intro W' hW'
        go_simp
        try with_reducible rfl
      try simp only [Act.put, List.setIfInBounds_toArray, List.set_cons_zero, List.set_cons_succ]
      refine rgn.Walk.ys (v := ?_) rfl rfl rfl ?_ ?_
      rotate_left 1
      · intro W' hW'
        go_simp
        try with_reducible rfl
      try simp only [Act.put, List.setIfInBounds_toArray, List.set_cons_zero, List.set_cons_succ]
      refine rgn.Walk.es ?_
      refine rgn.stepE rfl rfl (fun K hK => ?_)
      refine op_put _ _ _ rfl m 6 rfl (.int .i64 3) rfl OM.out (by kernel_rfl) (Nat.le_trans (show _ ≤ 43 from Nat.le_of_ble_eq_true rfl) (mcs_size _ _)) (one_i _ _) (p_st OM.out 3) (fun W9 hb9 o9 => ?_)
      refine hK _ _ o9 ?_
      clear hK K
      try simp only [Act.put, List.setIfInBounds_toArray, List.set_cons_zero, List.set_cons_succ]
      have OM := hid hb9; have QM := hid (QM.out.trans o9)
      have OB := hid (OB.out.only o9 (by simpa using fun e => HN.out e.symm))
      clear hb9 o9
      refine rgn.Walk.ys (v := ?_) rfl rfl rfl ?_ ?_
      rotate_left 1
      · intro W' hW'
        go_simp
        try with_reducible rfl
      try simp only [Act.put, List.setIfInBounds_toArray, List.set_cons_zero, List.set_cons_succ]
      refine rgn.Walk.ys (v := ?_) rfl rfl rfl ?_ ?_
      rotate_left 1
      · intro W' hW'
        go_simp
        try with_reducible rfl
      try simp only [Act.put, List.setIfInBounds_toArray, List.set_cons_zero, List.set_cons_succ]
      refine rgn.Walk.es ?_
      refine rgn.stepE rfl rfl (fun K hK => ?_)
      refine op_put _ _ _ rfl m 26 rfl (.agg (l.kept sv).cs) rfl OM.out (by kernel_rfl) (Nat.le_trans (show _ ≤ 43 from Nat.le_of_ble_eq_true rfl) (mcs_size _ _)) (one_l _) (p_le OM.out (l.kept sv)) (fun W9 hb9 o9 => ?_)
      refine hK _ _ o9 ?_
      clear hK K
      try simp only [Act.put, List.setIfInBounds_toArray, List.set_cons_zero, List.set_cons_succ]
      have OM := hid hb9; have QM := hid (QM.out.trans o9)
      have OB := hid (OB.out.only o9 (by simpa using fun e => HN.out e.symm))
      clear hb9 o9
      refine rgn.Walk.ys (v := ?_) rfl rfl rfl ?_ ?_
      rotate_left 1
      · intro W' hW'
        go_simp
        try with_reducible rfl
      try simp only [Act.put, List.setIfInBounds_toArray, List.set_cons_zero, List.set_cons_succ]
      refine rgn.Walk.ys (v := ?_) rfl rfl rfl ?_ ?_
      rotate_left 1
      · intro W' hW'
        go_simp
        try with_reducible rfl
      try simp only [Act.put, List.setIfInBounds_toArray, List.set_cons_zero, List.set_cons_succ]
      refine rgn.Walk.es ?_
      refine rgn.stepE rfl rfl (fun K hK => ?_)
      refine op_put _ _ _ rfl m 42 rfl (.int .i64 now) rfl OM.out (by kernel_rfl) (Nat.le_trans (show _ ≤ 43 from Nat.le_of_ble_eq_true rfl) (mcs_size _ _)) (one_i _ _) (p_be OM.out now) (fun W9 hb9 o9 => ?_)
      refine hK _ _ o9 ?_
      clear hK K
      try simp only [Act.put, List.setIfInBounds_toArray, List.set_cons_zero, List.set_cons_succ]
      have OM := hid hb9; have QM := hid (QM.out.trans o9)
      have OB := hid (OB.out.only o9 (by simpa using fun e => HN.out e.symm))
      clear hb9 o9
      refine rgn.Walk.zs (NoPanic.normal ?_)
      go_wp2_with fail
      refine (dur1 _ m T tl _ OM.out (by have := HKB.out; exact ⟨by show 0 ≤ (l.kept sv).ti; omega, this.2⟩)).mono ?_
      rintro x w2 ⟨rfl, rfl⟩
      obtain ⟨z, hz⟩ : ∃ z, (l.kept sv).ti = z := ⟨_, rfl⟩
      have HZ := hid hz
      have HZB : Hid (1 ≤ z ∧ z ≤ 2147483647) := hid (by rw [← hz]; exact HKB.out)
      simp only [hz]
      have hzb := HZB.out
      clear hz
      have hq : IntKind.i64.wrap ((10 * z).tdiv 2) = 10 * z / 2 := by rw [Int.tdiv_eq_ediv_of_nonneg (by omega)]; exact i64_in _ (by omega)
      go_wp2_with fail
      refine (later1 _ now (10 * z / 2) (by omega) ⟨by have := HNow.out; unfold Tk at this; omega, HNow.out.2⟩).mono ?_
      rintro x w3 ⟨rfl, rfl⟩
      go_wp2_with (first | (refine wp_put rfl _ _ _ rfl m 8 rfl (.int .i64 (laterZ now (10 * z / 2))) rfl OM.out (by kernel_rfl) (Nat.le_trans (show _ ≤ 43 from Nat.le_of_ble_eq_true rfl) (mcs_size _ _)) (one_i _ _) (p_due OM.out (laterZ now (10 * z / 2))) ?_) | fail)
      intro W9 hb9 o9
      try simp only [Act.put, List.setIfInBounds_toArray, List.set_cons_zero, List.set_cons_succ]
      have OM := hid hb9; have QM := hid (QM.out.trans o9)
      clear hb9 o9
      go_wp2_with fail
      refine bodyPost_end (results_none rfl _ _ _) rfl ?_
      refine ⟨rfl, ?_, QM.out⟩
      have h9 := OM.out
      rw [← HZ.out] at h9
      exact h9
  · by_cases hti : l.ti < 1
    · have e1 : (l.sv == 0) = false := by simp [hsv]
      have HSV := hid hsv; have HTI := hid hti
      clear hsv
      clear hy hy2
      have e2 := l_sv OB.out; have e3 := l_ti OB.out
      go_enter Try.func67, Try.ntmps67
      go_wp2_with (first | (refine wp_put rfl _ _ _ rfl b 12 rfl (.int .i64 3600) rfl OB.out (by kernel_rfl) (show _ ≤ 16 from Nat.le_of_ble_eq_true rfl) (one_i _ _) (q_ti OB.out 3600) ?_) | fail)
      intro W9 hb9 o9
      try simp only [Act.put, List.setIfInBounds_toArray, List.set_cons_zero, List.set_cons_succ]
      have OB := hid hb9; have OM := hid (OM.out.only o9 (by simpa using HN.out)); have QM := hid (QM.out.fresh o9 (fun i hi => .inr (by rw [List.mem_singleton.1 hi]; exact HW.out)))
      clear hb9 o9
      clear e3
      have e3 : W9.cell? ⟨b, 12, none⟩ = some (.int .i64 3600) := by have h9 := l_ti OB.out; exact h9
      go_wp2_with (first | (refine wp_put rfl _ _ _ rfl b 12 rfl (.int .i64 3600) rfl OB.out (by kernel_rfl) (show _ ≤ 16 from Nat.le_of_ble_eq_true rfl) (one_i _ _) (q_ti OB.out 3600) ?_) | fail)
      intro W9 hb9 o9
      try simp only [Act.put, List.setIfInBounds_toArray, List.set_cons_zero, List.set_cons_succ]
      have OB := hid hb9; have OM := hid (OM.out.only o9 (by simpa using HN.out)); have QM := hid (QM.out.fresh o9 (fun i hi => .inr (by rw [List.mem_singleton.1 hi]; exact HW.out)))
      clear hb9 o9
      clear e1 e3 hti
      have hk : Ob W9 b 27 (l.kept sv).cs := by
        have h9 := OB.out
        unfold Lm.kept
        rw [if_neg HSV.out, if_pos (by have := HTI.out; omega)]
        exact h9
      have OB := hid hk
      clear hk
      go_wp2_with fail
      refine wp_region_noPanic ?_
      refine rgn.regionT (R := Only [m]) (by kernel_rfl) (Only.refl [m]) (fun _ _ _ => Only.trans) (fun _ _ _ _ _ h => h) (.y 0 (.y 1 (.y 2 (.y 3 (.y 4 (.y 5 (.y 6 (.e 7 (.y 8 (.y 9 (.e 10 (.y 11 (.y 12 (.e 13 .z)))))))))))))) (by kernel_rfl) (fun W hWd => ?_)
      have HWd := hid hWd; clear hWd
      have q8 : Only [] W9 W := Only.eq_drew (Only.refl [] _) HWd.out
      have OM := hid (OM.out.only q8 (by simp)); have OB := hid (OB.out.only q8 (by simp)); have QM := hid (QM.out.trans (q8.more (by simp)))
      clear q8 HWd
      refine rgn.Walk.ys (v := ?_) rfl rfl rfl ?_ ?_
      rotate_left 1
      · intro W' hW'
        go_simp
        try with_reducible rfl
      try simp only [Act.put, List.setIfInBounds_toArray, List.set_cons_zero, List.set_cons_succ]
      refine rgn.Walk.ys (v := ?_) rfl rfl rfl ?_ ?_
      rotate_left 1
      · intro W' hW'
        go_simp
        try with_reducible rfl
      try simp only [Act.put, List.setIfInBounds_toArray, List.set_cons_zero, List.set_cons_succ]
      refine rgn.Walk.ys (v := ?_) rfl rfl rfl ?_ ?_
      rotate_left 1
      · intro W' hW'
        go_simp
        try with_reducible rfl
      try simp only [Act.put, List.setIfInBounds_toArray, List.set_cons_zero, List.set_cons_succ]
      refine rgn.Walk.ys rfl rfl rfl (fun W' hW' => exec_lm _ _ rfl b 0 rfl (l.kept sv) (r_all (OB.out.only hW' (by simpa using fun e => HN.out e.symm))) Try.underlying27 rfl (by kernel_rfl)) ?_
      try simp only [Act.put, List.setIfInBounds_toArray, List.set_cons_zero, List.set_cons_succ]
      refine rgn.Walk.ys (v := ?_) rfl rfl rfl ?_ ?_
      rotate_left 1
      · intro W' hW'
        go_simp
        try with_reducible rfl
      try simp only [Act.put, List.setIfInBounds_toArray, List.set_cons_zero, List.set_cons_succ]
      refine rgn.Walk.ys (v := ?_) rfl rfl rfl ?_ ?_
      rotate_left 1
      · intro W' hW'
        go_simp
        try with_reducible rfl
      try simp only [Act.put, List.setIfInBounds_toArray, List.set_cons_zero, List.set_cons_succ]
      refine rgn.Walk.ys (v := ?_) rfl rfl rfl ?_ ?_
      rotate_left 1
      · intro W' hW'
        go_simp
        try with_reducible rfl
      try simp only [Act.put, List.setIfInBounds_toArray, List.set_cons_zero, List.set_cons_succ]
      refine rgn.Walk.es ?_
      refine rgn.stepE rfl rfl (fun K hK => ?_)
      refine op_put _ _ _ rfl m 6 rfl (.int .i64 3) rfl OM.out (by kernel_rfl) (Nat.le_trans (show _ ≤ 43 from Nat.le_of_ble_eq_true rfl) (mcs_size _ _)) (one_i _ _) (p_st OM.out 3) (fun W9 hb9 o9 => ?_)
      refine hK _ _ o9 ?_
      clear hK K
      try simp only [Act.put, List.setIfInBounds_toArray, List.set_cons_zero, List.set_cons_succ]
      have OM := hid hb9; have QM := hid (QM.out.trans o9)
      have OB := hid (OB.out.only o9 (by simpa using fun e => HN.out e.symm))
      clear hb9 o9
      refine rgn.Walk.ys (v := ?_) rfl rfl rfl ?_ ?_
      rotate_left 1
      · intro W' hW'
        go_simp
        try with_reducible rfl
      try simp only [Act.put, List.setIfInBounds_toArray, List.set_cons_zero, List.set_cons_succ]
      refine rgn.Walk.ys (v := ?_) rfl rfl rfl ?_ ?_
      rotate_left 1
      · intro W' hW'
        go_simp
        try with_reducible rfl
      try simp only [Act.put, List.setIfInBounds_toArray, List.set_cons_zero, List.set_cons_succ]
      refine rgn.Walk.es ?_
      refine rgn.stepE rfl rfl (fun K hK => ?_)
      refine op_put _ _ _ rfl m 26 rfl (.agg (l.kept sv).cs) rfl OM.out (by kernel_rfl) (Nat.le_trans (show _ ≤ 43 from Nat.le_of_ble_eq_true rfl) (mcs_size _ _)) (one_l _) (p_le OM.out (l.kept sv)) (fun W9 hb9 o9 => ?_)
      refine hK _ _ o9 ?_
      clear hK K
      try simp only [Act.put, List.setIfInBounds_toArray, List.set_cons_zero, List.set_cons_succ]
      have OM := hid hb9; have QM := hid (QM.out.trans o9)
      have OB := hid (OB.out.only o9 (by simpa using fun e => HN.out e.symm))
      clear hb9 o9
      refine rgn.Walk.ys (v := ?_) rfl rfl rfl ?_ ?_
      rotate_left 1
      · intro W' hW'
        go_simp
        try with_reducible rfl
      try simp only [Act.put, List.setIfInBounds_toArray, List.set_cons_zero, List.set_cons_succ]
      refine rgn.Walk.ys (v := ?_) rfl rfl rfl ?_ ?_
      rotate_left 1
      · intro W' hW'
        go_simp
        try with_reducible rfl
      try simp only [Act.put, List.setIfInBounds_toArray, List.set_cons_zero, List.set_cons_succ]
      refine rgn.Walk.es ?_
      refine rgn.stepE rfl rfl (fun K hK => ?_)
      refine op_put _ _ _ rfl m 42 rfl (.int .i64 now) rfl OM.out (by kernel_rfl) (Nat.le_trans (show _ ≤ 43 from Nat.le_of_ble_eq_true rfl) (mcs_size _ _)) (one_i _ _) (p_be OM.out now) (fun W9 hb9 o9 => ?_)
      refine hK _ _ o9 ?_
      clear hK K
      try simp only [Act.put, List.setIfInBounds_toArray, List.set_cons_zero, List.set_cons_succ]
      have OM := hid hb9; have QM := hid (QM.out.trans o9)
      have OB := hid (OB.out.only o9 (by simpa using fun e => HN.out e.symm))
      clear hb9 o9
      refine rgn.Walk.zs (NoPanic.normal ?_)
      go_wp2_with fail
      refine (dur1 _ m T tl _ OM.out (by have := HKB.out; exact ⟨by show 0 ≤ (l.kept sv).ti; omega, this.2⟩)).mono ?_
      rintro x w2 ⟨rfl, rfl⟩
      obtain ⟨z, hz⟩ : ∃ z, (l.kept sv).ti = z := ⟨_, rfl⟩
      have HZ := hid hz
      have HZB : Hid (1 ≤ z ∧ z ≤ 2147483647) := hid (by rw [← hz]; exact HKB.out)
      simp only [hz]
      have hzb := HZB.out
      clear hz
      have hq : IntKind.i64.wrap ((10 * z).tdiv 2) = 10 * z / 2 := by rw [Int.tdiv_eq_ediv_of_nonneg (by omega)]; exact i64_in _ (by omega)
      go_wp2_with fail
      refine (later1 _ now (10 * z / 2) (by omega) ⟨by have := HNow.out; unfold Tk at this; omega, HNow.out.2⟩).mono ?_
      rintro x w3 ⟨rfl, rfl⟩
      go_wp2_with (first | (refine wp_put rfl _ _ _ rfl m 8 rfl (.int .i64 (laterZ now (10 * z / 2))) rfl OM.out (by kernel_rfl) (Nat.le_trans (show _ ≤ 43 from Nat.le_of_ble_eq_true rfl) (mcs_size _ _)) (one_i _ _) (p_due OM.out (laterZ now (10 * z / 2))) ?_) | fail)
      intro W9 hb9 o9
      try simp only [Act.put, List.setIfInBounds_toArray, List.set_cons_zero, List.set_cons_succ]
      have OM := hid hb9; have QM := hid (QM.out.trans o9)
      clear hb9 o9
      go_wp2_with fail
      refine bodyPost_end (results_none rfl _ _ _) rfl ?_
      refine ⟨rfl, ?_, QM.out⟩
      have h9 := OM.out
      rw [← HZ.out] at h9
      exact h9
    · have e1 : (l.sv == 0) = false := by simp [hsv]
      have HSV := hid hsv; have HTI := hid hti
      clear hsv
      have e2 := l_sv OB.out; have e3 := l_ti OB.out
      go_enter Try.func67, Try.ntmps67
      go_wp2_with (first | (refine wp_put rfl _ _ _ rfl b 12 rfl (.int .i64 y) rfl OB.out (by kernel_rfl) (show _ ≤ 16 from Nat.le_of_ble_eq_true rfl) (one_i _ _) (q_ti OB.out y) ?_) | fail)
      intro W9 hb9 o9
      try simp only [Act.put, List.setIfInBounds_toArray, List.set_cons_zero, List.set_cons_succ]
      have OB := hid hb9; have OM := hid (OM.out.only o9 (by simpa using HN.out)); have QM := hid (QM.out.fresh o9 (fun i hi => .inr (by rw [List.mem_singleton.1 hi]; exact HW.out)))
      clear hb9 o9
      clear e1 e3 hti hy hy2
      have hk : Ob W9 b 27 (l.kept sv).cs := by
        have h9 := OB.out
        unfold Lm.kept
        rw [if_neg HSV.out, if_neg (by have := HTI.out; omega)]
        rw [← HY.out]
        exact h9
      have OB := hid hk
      clear hk
      go_wp2_with fail
      refine wp_region_noPanic ?_
      refine rgn.regionT (R := Only [m]) (by kernel_rfl) (Only.refl [m]) (fun _ _ _ => Only.trans) (fun _ _ _ _ _ h => h) (.y 0 (.y 1 (.y 2 (.y 3 (.y 4 (.y 5 (.y 6 (.e 7 (.y 8 (.y 9 (.e 10 (.y 11 (.y 12 (.e 13 .z)))))))))))))) (by kernel_rfl) (fun W hWd => ?_)
      have HWd := hid hWd; clear hWd
      have q8 : Only [] W9 W := Only.eq_drew (Only.refl [] _) HWd.out
      have OM := hid (OM.out.only q8 (by simp)); have OB := hid (OB.out.only q8 (by simp)); have QM := hid (QM.out.trans (q8.more (by simp)))
      clear q8 HWd
      refine rgn.Walk.ys (v := ?_) rfl rfl rfl ?_ ?_
      rotate_left 1
      · intro W' hW'
        go_simp
        try with_reducible rfl
      try simp only [Act.put, List.setIfInBounds_toArray, List.set_cons_zero, List.set_cons_succ]
      refine rgn.Walk.ys (v := ?_) rfl rfl rfl ?_ ?_
      rotate_left 1
      · intro W' hW'
        go_simp
        try with_reducible rfl
      try simp only [Act.put, List.setIfInBounds_toArray, List.set_cons_zero, List.set_cons_succ]
      refine rgn.Walk.ys (v := ?_) rfl rfl rfl ?_ ?_
      rotate_left 1
      · intro W' hW'
        go_simp
        try with_reducible rfl
      try simp only [Act.put, List.setIfInBounds_toArray, List.set_cons_zero, List.set_cons_succ]
      refine rgn.Walk.ys rfl rfl rfl (fun W' hW' => exec_lm _ _ rfl b 0 rfl (l.kept sv) (r_all (OB.out.only hW' (by simpa using fun e => HN.out e.symm))) Try.underlying27 rfl (by kernel_rfl)) ?_
      try simp only [Act.put, List.setIfInBounds_toArray, List.set_cons_zero, List.set_cons_succ]
      refine rgn.Walk.ys (v := ?_) rfl rfl rfl ?_ ?_
      rotate_left 1
      · intro W' hW'
        go_simp
        try with_reducible rfl
      try simp only [Act.put, List.setIfInBounds_toArray, List.set_cons_zero, List.set_cons_succ]
      refine rgn.Walk.ys (v := ?_) rfl rfl rfl ?_ ?_
      rotate_left 1
      · intro W' hW'
        go_simp
        try with_reducible rfl
      try simp only [Act.put, List.setIfInBounds_toArray, List.set_cons_zero, List.set_cons_succ]
      refine rgn.Walk.ys (v := ?_) rfl rfl rfl ?_ ?_
      rotate_left 1
      · intro W' hW'
        go_simp
        try with_reducible rfl
      try simp only [Act.put, List.setIfInBounds_toArray, List.set_cons_zero, List.set_cons_succ]
      refine rgn.Walk.es ?_
      refine rgn.stepE rfl rfl (fun K hK => ?_)
      refine op_put _ _ _ rfl m 6 rfl (.int .i64 3) rfl OM.out (by kernel_rfl) (Nat.le_trans (show _ ≤ 43 from Nat.le_of_ble_eq_true rfl) (mcs_size _ _)) (one_i _ _) (p_st OM.out 3) (fun W9 hb9 o9 => ?_)
      refine hK _ _ o9 ?_
      clear hK K
      try simp only [Act.put, List.setIfInBounds_toArray, List.set_cons_zero, List.set_cons_succ]
      have OM := hid hb9; have QM := hid (QM.out.trans o9)
      have OB := hid (OB.out.only o9 (by simpa using fun e => HN.out e.symm))
      clear hb9 o9
      refine rgn.Walk.ys (v := ?_) rfl rfl rfl ?_ ?_
      rotate_left 1
      · intro W' hW'
        go_simp
        try with_reducible rfl
      try simp only [Act.put, List.setIfInBounds_toArray, List.set_cons_zero, List.set_cons_succ]
      refine rgn.Walk.ys (v := ?_) rfl rfl rfl ?_ ?_
      rotate_left 1
      · intro W' hW'
        go_simp
        try with_reducible rfl
      try simp only [Act.put, List.setIfInBounds_toArray, List.set_cons_zero, List.set_cons_succ]
      refine rgn.Walk.es ?_
      refine rgn.stepE rfl rfl (fun K hK => ?_)
      refine op_put _ _ _ rfl m 26 rfl (.agg (l.kept sv).cs) rfl OM.out (by kernel_rfl) (Nat.le_trans (show _ ≤ 43 from Nat.le_of_ble_eq_true rfl) (mcs_size _ _)) (one_l _) (p_le OM.out (l.kept sv)) (fun W9 hb9 o9 => ?_)
      refine hK _ _ o9 ?_
      clear hK K
      try simp only [Act.put, List.setIfInBounds_toArray, List.set_cons_zero, List.set_cons_succ]
      have OM := hid hb9; have QM := hid (QM.out.trans o9)
      have OB := hid (OB.out.only o9 (by simpa using fun e => HN.out e.symm))
      clear hb9 o9
      refine rgn.Walk.ys (v := ?_) rfl rfl rfl ?_ ?_
      rotate_left 1
      · intro W' hW'
        go_simp
        try with_reducible rfl
      try simp only [Act.put, List.setIfInBounds_toArray, List.set_cons_zero, List.set_cons_succ]
      refine rgn.Walk.ys (v := ?_) rfl rfl rfl ?_ ?_
      rotate_left 1
      · intro W' hW'
        go_simp
        try with_reducible rfl
      try simp only [Act.put, List.setIfInBounds_toArray, List.set_cons_zero, List.set_cons_succ]
      refine rgn.Walk.es ?_
      refine rgn.stepE rfl rfl (fun K hK => ?_)
      refine op_put _ _ _ rfl m 42 rfl (.int .i64 now) rfl OM.out (by kernel_rfl) (Nat.le_trans (show _ ≤ 43 from Nat.le_of_ble_eq_true rfl) (mcs_size _ _)) (one_i _ _) (p_be OM.out now) (fun W9 hb9 o9 => ?_)
      refine hK _ _ o9 ?_
      clear hK K
      try simp only [Act.put, List.setIfInBounds_toArray, List.set_cons_zero, List.set_cons_succ]
      have OM := hid hb9; have QM := hid (QM.out.trans o9)
      have OB := hid (OB.out.only o9 (by simpa using fun e => HN.out e.symm))
      clear hb9 o9
      refine rgn.Walk.zs (NoPanic.normal ?_)
      go_wp2_with fail
      refine (dur1 _ m T tl _ OM.out (by have := HKB.out; exact ⟨by show 0 ≤ (l.kept sv).ti; omega, this.2⟩)).mono ?_
      rintro x w2 ⟨rfl, rfl⟩
      obtain ⟨z, hz⟩ : ∃ z, (l.kept sv).ti = z := ⟨_, rfl⟩
      have HZ := hid hz
      have HZB : Hid (1 ≤ z ∧ z ≤ 2147483647) := hid (by rw [← hz]; exact HKB.out)
      simp only [hz]
      have hzb := HZB.out
      clear hz
      have hq : IntKind.i64.wrap ((10 * z).tdiv 2) = 10 * z / 2 := by rw [Int.tdiv_eq_ediv_of_nonneg (by omega)]; exact i64_in _ (by omega)
      go_wp2_with fail
      refine (later1 _ now (10 * z / 2) (by omega) ⟨by have := HNow.out; unfold Tk at this; omega, HNow.out.2⟩).mono ?_
      rintro x w3 ⟨rfl, rfl⟩
      go_wp2_with (first | (refine wp_put rfl _ _ _ rfl m 8 rfl (.int .i64 (laterZ now (10 * z / 2))) rfl OM.out (by kernel_rfl) (Nat.le_trans (show _ ≤ 43 from Nat.le_of_ble_eq_true rfl) (mcs_size _ _)) (one_i _ _) (p_due OM.out (laterZ now (10 * z / 2))) ?_) | fail)
      intro W9 hb9 o9
      try simp only [Act.put, List.setIfInBounds_toArray, List.set_cons_zero, List.set_cons_succ]
      have OM := hid hb9; have QM := hid (QM.out.trans o9)
      clear hb9 o9
      go_wp2_with fail
      refine bodyPost_end (results_none rfl _ _ _) rfl ?_
      refine ⟨rfl, ?_, QM.out⟩
      have h9 := OM.out
      rw [← HZ.out] at h9
      exact h9
end Go.Proofs.Ytdpmjghdmpaehaa.lp
/-
  Chapter 23 (lease): what the program's client does with a message or a tick in each state, by a walk of each text. Conditions: none but those typed.
-/
namespace Go.Proofs.Ytdpmjghdmpaehaa.lp
set_option linter.unusedVariables false
set_option linter.unusedSimpArgs false
open Go.ChangeShapes Go.WideShapes Go.ChangeAt Go.RowKit Go.IntWalk Go.Lib
def Mc.granted (s : Mc) (l wl : Lm) (now draw : Int) : Mc × List Lm := if l.ty = 5 ∧ l.yo = wl.yo then (s.bound l wl.sv now, []) else if l.ty = 6 then (s.begin now draw, [(s.begin now draw).sent 1 0 0]) else (s, [])
def Mc.offered (s : Mc) (l : Lm) (now draw : Int) : Mc × List Lm := if l.ty = 2 ∧ l.yo ≠ 0 ∧ l.sv ≠ 0 then ({s with st := 2, of := l, tr := 1, due := laterZ now 40}, [s.sent 3 l.yo l.sv]) else (s, [])
def Mc.asks (s : Mc) : Lm := if s.st = 1 then s.sent 1 0 0 else s.sent 3 s.of.yo s.of.sv
def Mc.again (s : Mc) (now draw : Int) : Mc × List Lm := if 4 ≤ s.tr then (s.begin now draw, [(s.begin now draw).sent 1 0 0]) else ({s with tr := s.tr + 1, due := laterZ now (40 * (s.tr + 1))}, [s.asks])
def Mc.renew (s : Mc) (now : Int) : Mc × List Lm := ({s with st := if s.st = 3 then 4 else if laterZ s.be (10 * s.le.ti * 7 / 8) ≤ now then 5 else s.st, due := laterZ now 60}, [s.sent 3 s.le.yo 0])
set_option maxRecDepth 100000 in
set_option maxHeartbeats 8000000 in
theorem granted1 (w : World) (m : Nat) (T : TypeId) (tl : List Value) (s : Mc) (l wl : Lm) (now draw : Int) (hO : Ob w m T (s.cs tl)) (hn : Tk now) :
    Calls Try.prog 63 #[.pointer (some ⟨m, 0, none⟩), .agg l.cs, .agg wl.cs, .int .i64 now, .int .i64 draw] w (StepE m T tl (s.granted l wl now draw).1 (s.granted l wl now draw).2 w) := by
  obtain ⟨b, hb⟩ : ∃ b, w.heap.size = b := ⟨_, rfl⟩
  obtain ⟨W1, hW1⟩ : ∃ W1, w.alloc (.cells l.cs 27) = W1 := ⟨_, rfl⟩
  have OB : Hid (Ob W1 b 27 l.cs) := hid (by rw [← hW1, ← hb]; exact Ob.new _ _ _)
  have o1 : Only [] w W1 := by rw [← hW1]; exact (Only.refl [] w).alloc _
  have OM := hid (hO.only o1 (by simp))
  have HN : Hid (m ≠ b) := hid (by have := hO.lt; omega)
  have QM : Hid (Only [m] w W1) := hid (o1.more (by simp))
  have HNow := hid hn
  clear hO o1 hn
  obtain ⟨b2, hb2⟩ : ∃ b2, W1.heap.size = b2 := ⟨_, rfl⟩
  obtain ⟨W2, hW2⟩ : ∃ W2, W1.alloc (.cells wl.cs 27) = W2 := ⟨_, rfl⟩
  have OB2 : Hid (Ob W2 b2 27 wl.cs) := hid (by rw [← hW2, ← hb2]; exact Ob.new _ _ _)
  have o2 : Only [] W1 W2 := by rw [← hW2]; exact (Only.refl [] W1).alloc _
  have OM := hid (OM.out.only o2 (by simp)); have OB := hid (OB.out.only o2 (by simp)); have QM := hid (QM.out.trans (o2.more (by simp)))
  clear o2
  have c2 := l_yo OB.out; have c5 := l_sv OB.out; have c4 := l_ty OB.out; have d2 := l_yo OB2.out; have d5 := l_sv OB2.out
  by_cases h5 : l.ty = 5
  · by_cases hy : l.yo = wl.yo
    · have e1 : (l.ty == 5) = true := by simp [h5]
      have e2 : (l.yo == wl.yo) = true := by simp [hy]
      have HG : Hid (s.granted l wl now draw = (s.bound l wl.sv now, [])) := hid (if_pos ⟨h5, hy⟩)
      rw [HG.out]
      clear h5 hy
      go_enter Try.func63, Try.ntmps63
      go_wp2_with (first | (refine wp_lm rfl 27 _ rfl b 0 rfl l (r_all OB.out) Try.underlying27 rfl (by kernel_rfl) ?_; try simp only [Act.put, List.setIfInBounds_toArray, List.set_cons_zero, List.set_cons_succ]) | fail)
      refine (bind1 _ m T tl s l wl.sv now OM.out HNow.out).mono ?_
      rintro x w3 ⟨rfl, hO3, o3⟩
      have OM := hid hO3; have QM := hid (QM.out.trans o3)
      clear hO3 o3 e1 e2 c2 c5 c4 d2 d5
      go_wp2_with fail
      go_ret
      exact step_none OM.out QM.out
    · have e1 : (l.ty == 5) = true := by simp [h5]
      have e2 : (l.yo == wl.yo) = false := by simp [hy]
      have e3 : (l.ty == 6) = false := by simp [h5]
      have HG : Hid (s.granted l wl now draw = (s, [])) := hid (by unfold Mc.granted; rw [if_neg (by simp [hy]), if_neg (by omega)])
      rw [HG.out]
      clear h5 hy
      go_enter Try.func63, Try.ntmps63
      go_wp2_with fail
      go_ret
      exact step_none OM.out QM.out
  · have e1 : (l.ty == 5) = false := by simp [h5]
    by_cases h6 : l.ty = 6
    · have e3 : (l.ty == 6) = true := by simp [h6]
      have HG : Hid (s.granted l wl now draw = (s.begin now draw, [(s.begin now draw).sent 1 0 0])) := hid (by unfold Mc.granted; rw [if_neg (by simp [h5]), if_pos h6])
      rw [HG.out]
      clear h5 h6
      go_enter Try.func63, Try.ntmps63
      go_wp2_with fail
      refine (begin1 _ m T tl s now draw OM.out HNow.out).mono ?_
      rintro x w3 ⟨A, n, c, rfl, hl, hr, hf, hO3, o3⟩
      have HL := hid hl; have HR := hid hr; have HF := hid hf; have OM := hid hO3; have HZ := hid QM.out.size; have QM := hid (QM.out.trans o3)
      clear hl hr hf hO3 o3
      clear e1 e3 c2 c5 c4 d2 d5
      go_wp2_with fail
      go_ret
      exact ⟨A, n, c, rfl, HL.out, HR.out, fun b off e => Nat.le_trans HZ.out (HF.out b off e), OM.out, QM.out⟩
    · have e3 : (l.ty == 6) = false := by simp [h6]
      have HG : Hid (s.granted l wl now draw = (s, [])) := hid (by unfold Mc.granted; rw [if_neg (by simp [h5]), if_neg h6])
      rw [HG.out]
      clear h5 h6
      go_enter Try.func63, Try.ntmps63
      go_wp2_with fail
      go_ret
      exact step_none OM.out QM.out
set_option maxRecDepth 100000 in
set_option maxHeartbeats 8000000 in
theorem hearGrant1 (w : World) (m : Nat) (T : TypeId) (tl : List Value) (s : Mc) (l : Lm) (now draw : Int) (hO : Ob w m T (s.cs tl)) (hn : Tk now) :
    Calls Try.prog 43 #[.pointer (some ⟨m, 0, none⟩), .agg l.cs, .int .i64 now, .int .i64 draw] w (StepE m T tl (s.granted l s.of now draw).1 (s.granted l s.of now draw).2 w) := by
  obtain ⟨b, hb⟩ : ∃ b, w.heap.size = b := ⟨_, rfl⟩
  obtain ⟨W1, hW1⟩ : ∃ W1, w.alloc (.cells l.cs 27) = W1 := ⟨_, rfl⟩
  have OB : Hid (Ob W1 b 27 l.cs) := hid (by rw [← hW1, ← hb]; exact Ob.new _ _ _)
  have o1 : Only [] w W1 := by rw [← hW1]; exact (Only.refl [] w).alloc _
  have OM := hid (hO.only o1 (by simp))
  have HN : Hid (m ≠ b) := hid (by have := hO.lt; omega)
  have QM : Hid (Only [m] w W1) := hid (o1.more (by simp))
  have HNow := hid hn
  clear hO o1 hn
  go_enter Try.func43, Try.ntmps43
  go_wp2_with fail
  refine wp_region_noPanic ?_
  refine rgn.regionT (R := Only [m]) (by kernel_rfl) (Only.refl [m]) (fun _ _ _ => Only.trans) (fun _ _ _ _ _ h => h) (.y 0 (.y 1 (.y 2 (.y 3 (.y 4 (.y 6 (.y 7 (.e 5 (.e 8 (.e 9 .z)))))))))) (by kernel_rfl) (fun W hWd => ?_)
  have HWd := hid hWd; clear hWd
  have q8 : Only [] W1 W := Only.eq_drew (Only.refl [] _) HWd.out
  have OM := hid (OM.out.only q8 (by simp)); have OB := hid (OB.out.only q8 (by simp)); have QM := hid (QM.out.trans (q8.more (by simp)))
  clear q8 HWd
  refine rgn.Walk.ys (v := ?_) rfl rfl rfl ?_ ?_
  rotate_left 1
  · intro W' hW'
    go_simp
    try with_reducible rfl
  try simp only [Act.put, List.setIfInBounds_toArray, List.set_cons_zero, List.set_cons_succ]
  refine rgn.Walk.ys rfl rfl rfl (fun W' hW' => exec_lm _ _ rfl b 0 rfl l (r_all (OB.out.only hW' (by simpa using fun e => HN.out e.symm))) Try.underlying27 rfl (by kernel_rfl)) ?_
  try simp only [Act.put, List.setIfInBounds_toArray, List.set_cons_zero, List.set_cons_succ]
  refine rgn.Walk.ys (v := ?_) rfl rfl rfl ?_ ?_
  rotate_left 1
  · intro W' hW'
    go_simp
    try with_reducible rfl
  try simp only [Act.put, List.setIfInBounds_toArray, List.set_cons_zero, List.set_cons_succ]
  refine rgn.Walk.ys (v := ?_) rfl rfl rfl ?_ ?_
  rotate_left 1
  · intro W' hW'
    go_simp
    try with_reducible rfl
  try simp only [Act.put, List.setIfInBounds_toArray, List.set_cons_zero, List.set_cons_succ]
  refine rgn.Walk.ys (v := ?_) rfl rfl rfl ?_ ?_
  rotate_left 1
  · intro W' hW'
    go_simp
    try with_reducible rfl
  try simp only [Act.put, List.setIfInBounds_toArray, List.set_cons_zero, List.set_cons_succ]
  refine rgn.Walk.ys (v := ?_) rfl rfl rfl ?_ ?_
  rotate_left 1
  · intro W' hW'
    go_simp
    try with_reducible rfl
  try simp only [Act.put, List.setIfInBounds_toArray, List.set_cons_zero, List.set_cons_succ]
  refine rgn.Walk.ys (v := ?_) rfl rfl rfl ?_ ?_
  rotate_left 1
  · intro W' hW'
    go_simp
    try with_reducible rfl
  try simp only [Act.put, List.setIfInBounds_toArray, List.set_cons_zero, List.set_cons_succ]
  refine rgn.Walk.es ?_
  refine rgn.stepE rfl rfl (fun K hK => ?_)
  refine op_lm _ _ rfl m 10 rfl s.of (r_of OM.out) Try.underlying27 rfl (by kernel_rfl) ?_
  refine hK _ _ (Only.refl _ _) ?_
  clear hK K
  try simp only [Act.put, List.setIfInBounds_toArray, List.set_cons_zero, List.set_cons_succ]
  refine rgn.Walk.es ?_
  refine rgn.stepE rfl rfl (fun K hK => ?_)
  go_simp
  refine (granted1 _ m T tl s l s.of now draw OM.out HNow.out).mono ?_
  rintro x w3 ⟨A, n, c, rfl, hl, hr, hf, hO3, o3⟩
  refine hK _ _ o3 ?_
  clear hK K
  try simp only [Act.put, List.setIfInBounds_toArray, List.set_cons_zero, List.set_cons_succ]
  have HL := hid hl; have HR := hid hr; have HF := hid hf; have OM := hid hO3; have HZ := hid QM.out.size; have QM := hid (QM.out.trans o3)
  clear hl hr hf hO3 o3
  refine rgn.Walk.es ?_
  refine rgn.stepE rfl rfl (fun K hK => ?_)
  go_simp
  refine hK _ _ ((Only.refl [m]) _) ?_
  clear hK K
  try simp only [Act.put, List.setIfInBounds_toArray, List.set_cons_zero, List.set_cons_succ]
  refine rgn.Walk.zs (NoPanic.normal ?_)
  go_wp2_with fail
  go_ret
  exact ⟨A, n, c, rfl, HL.out, HR.out, fun b off e => Nat.le_trans HZ.out (HF.out b off e), OM.out, QM.out⟩
set_option maxRecDepth 100000 in
set_option maxHeartbeats 8000000 in
theorem hearRenewal1 (w : World) (m : Nat) (T : TypeId) (tl : List Value) (s : Mc) (l : Lm) (now draw : Int) (hO : Ob w m T (s.cs tl)) (hn : Tk now) :
    Calls Try.prog 44 #[.pointer (some ⟨m, 0, none⟩), .agg l.cs, .int .i64 now, .int .i64 draw] w (StepE m T tl (s.granted l s.le now draw).1 (s.granted l s.le now draw).2 w) := by
  obtain ⟨b, hb⟩ : ∃ b, w.heap.size = b := ⟨_, rfl⟩
  obtain ⟨W1, hW1⟩ : ∃ W1, w.alloc (.cells l.cs 27) = W1 := ⟨_, rfl⟩
  have OB : Hid (Ob W1 b 27 l.cs) := hid (by rw [← hW1, ← hb]; exact Ob.new _ _ _)
  have o1 : Only [] w W1 := by rw [← hW1]; exact (Only.refl [] w).alloc _
  have OM := hid (hO.only o1 (by simp))
  have HN : Hid (m ≠ b) := hid (by have := hO.lt; omega)
  have QM : Hid (Only [m] w W1) := hid (o1.more (by simp))
  have HNow := hid hn
  clear hO o1 hn
  go_enter Try.func44, Try.ntmps44
  go_wp2_with fail
  refine wp_region_noPanic ?_
  refine rgn.regionT (R := Only [m]) (by kernel_rfl) (Only.refl [m]) (fun _ _ _ => Only.trans) (fun _ _ _ _ _ h => h) (.y 0 (.y 1 (.y 2 (.y 3 (.y 4 (.y 6 (.y 7 (.e 5 (.e 8 (.e 9 .z)))))))))) (by kernel_rfl) (fun W hWd => ?_)
  have HWd := hid hWd; clear hWd
  have q8 : Only [] W1 W := Only.eq_drew (Only.refl [] _) HWd.out
  have OM := hid (OM.out.only q8 (by simp)); have OB := hid (OB.out.only q8 (by simp)); have QM := hid (QM.out.trans (q8.more (by simp)))
  clear q8 HWd
  refine rgn.Walk.ys (v := ?_) rfl rfl rfl ?_ ?_
  rotate_left 1
  · intro W' hW'
    go_simp
    try with_reducible rfl
  try simp only [Act.put, List.setIfInBounds_toArray, List.set_cons_zero, List.set_cons_succ]
  refine rgn.Walk.ys rfl rfl rfl (fun W' hW' => exec_lm _ _ rfl b 0 rfl l (r_all (OB.out.only hW' (by simpa using fun e => HN.out e.symm))) Try.underlying27 rfl (by kernel_rfl)) ?_
  try simp only [Act.put, List.setIfInBounds_toArray, List.set_cons_zero, List.set_cons_succ]
  refine rgn.Walk.ys (v := ?_) rfl rfl rfl ?_ ?_
  rotate_left 1
  · intro W' hW'
    go_simp
    try with_reducible rfl
  try simp only [Act.put, List.setIfInBounds_toArray, List.set_cons_zero, List.set_cons_succ]
  refine rgn.Walk.ys (v := ?_) rfl rfl rfl ?_ ?_
  rotate_left 1
  · intro W' hW'
    go_simp
    try with_reducible rfl
  try simp only [Act.put, List.setIfInBounds_toArray, List.set_cons_zero, List.set_cons_succ]
  refine rgn.Walk.ys (v := ?_) rfl rfl rfl ?_ ?_
  rotate_left 1
  · intro W' hW'
    go_simp
    try with_reducible rfl
  try simp only [Act.put, List.setIfInBounds_toArray, List.set_cons_zero, List.set_cons_succ]
  refine rgn.Walk.ys (v := ?_) rfl rfl rfl ?_ ?_
  rotate_left 1
  · intro W' hW'
    go_simp
    try with_reducible rfl
  try simp only [Act.put, List.setIfInBounds_toArray, List.set_cons_zero, List.set_cons_succ]
  refine rgn.Walk.ys (v := ?_) rfl rfl rfl ?_ ?_
  rotate_left 1
  · intro W' hW'
    go_simp
    try with_reducible rfl
  try simp only [Act.put, List.setIfInBounds_toArray, List.set_cons_zero, List.set_cons_succ]
  refine rgn.Walk.es ?_
  refine rgn.stepE rfl rfl (fun K hK => ?_)
  refine op_lm _ _ rfl m 26 rfl s.le (r_le OM.out) Try.underlying27 rfl (by kernel_rfl) ?_
  refine hK _ _ (Only.refl _ _) ?_
  clear hK K
  try simp only [Act.put, List.setIfInBounds_toArray, List.set_cons_zero, List.set_cons_succ]
  refine rgn.Walk.es ?_
  refine rgn.stepE rfl rfl (fun K hK => ?_)
  go_simp
  refine (granted1 _ m T tl s l s.le now draw OM.out HNow.out).mono ?_
  rintro x w3 ⟨A, n, c, rfl, hl, hr, hf, hO3, o3⟩
  refine hK _ _ o3 ?_
  clear hK K
  try simp only [Act.put, List.setIfInBounds_toArray, List.set_cons_zero, List.set_cons_succ]
  have HL := hid hl; have HR := hid hr; have HF := hid hf; have OM := hid hO3; have HZ := hid QM.out.size; have QM := hid (QM.out.trans o3)
  clear hl hr hf hO3 o3
  refine rgn.Walk.es ?_
  refine rgn.stepE rfl rfl (fun K hK => ?_)
  go_simp
  refine hK _ _ ((Only.refl [m]) _) ?_
  clear hK K
  try simp only [Act.put, List.setIfInBounds_toArray, List.set_cons_zero, List.set_cons_succ]
  refine rgn.Walk.zs (NoPanic.normal ?_)
  go_wp2_with fail
  go_ret
  exact ⟨A, n, c, rfl, HL.out, HR.out, fun b off e => Nat.le_trans HZ.out (HF.out b off e), OM.out, QM.out⟩
theorem ignore1 (w : World) (m : Nat) (T : TypeId) (tl : List Value) (s : Mc) (l : Lm) (now draw : Int) (hO : Ob w m T (s.cs tl)) (hn : Tk now) :
    Calls Try.prog 41 #[.pointer (some ⟨m, 0, none⟩), .agg l.cs, .int .i64 now, .int .i64 draw] w (StepE m T tl s [] w) := by
  obtain ⟨b, hb⟩ : ∃ b, w.heap.size = b := ⟨_, rfl⟩
  obtain ⟨W1, hW1⟩ : ∃ W1, w.alloc (.cells l.cs 27) = W1 := ⟨_, rfl⟩
  have OB : Hid (Ob W1 b 27 l.cs) := hid (by rw [← hW1, ← hb]; exact Ob.new _ _ _)
  have o1 : Only [] w W1 := by rw [← hW1]; exact (Only.refl [] w).alloc _
  have OM := hid (hO.only o1 (by simp))
  have HN : Hid (m ≠ b) := hid (by have := hO.lt; omega)
  have QM : Hid (Only [m] w W1) := hid (o1.more (by simp))
  have HNow := hid hn
  clear hO o1 hn
  go_enter Try.func41, Try.ntmps41
  go_wp2_with fail
  go_ret
  exact step_none OM.out QM.out
theorem rest1 (w : World) (m : Nat) (T : TypeId) (tl : List Value) (s : Mc) (now draw : Int) (hO : Ob w m T (s.cs tl)) :
    Calls Try.prog 45 #[.pointer (some ⟨m, 0, none⟩), .int .i64 now, .int .i64 draw] w (StepE m T tl s [] w) := by
  go_enter Try.func45, Try.ntmps45
  go_wp2_with fail
  go_ret
  exact step_none hO (Only.refl _ _)
set_option maxRecDepth 100000 in
set_option maxHeartbeats 8000000 in
theorem hearOffer1 (w : World) (m : Nat) (T : TypeId) (tl : List Value) (s : Mc) (l : Lm) (now draw : Int) (hO : Ob w m T (s.cs tl)) (hn : Tk now) :
    Calls Try.prog 42 #[.pointer (some ⟨m, 0, none⟩), .agg l.cs, .int .i64 now, .int .i64 draw] w (StepE m T tl (s.offered l now draw).1 (s.offered l now draw).2 w) := by
  obtain ⟨b, hb⟩ : ∃ b, w.heap.size = b := ⟨_, rfl⟩
  obtain ⟨W1, hW1⟩ : ∃ W1, w.alloc (.cells l.cs 27) = W1 := ⟨_, rfl⟩
  have OB : Hid (Ob W1 b 27 l.cs) := hid (by rw [← hW1, ← hb]; exact Ob.new _ _ _)
  have o1 : Only [] w W1 := by rw [← hW1]; exact (Only.refl [] w).alloc _
  have OM := hid (hO.only o1 (by simp))
  have HN : Hid (m ≠ b) := hid (by have := hO.lt; omega)
  have QM : Hid (Only [m] w W1) := hid (o1.more (by simp))
  have HNow := hid hn
  clear hO o1 hn
  have c2 := l_yo OB.out; have c5 := l_sv OB.out; have c4 := l_ty OB.out
  by_cases h1 : l.ty = 2
  · have e1 : (l.ty != 2) = false := by simp [h1]
    by_cases h2 : l.yo = 0
    · have e2 : (l.yo == 0) = true := by simp [h2]
      have HG : Hid (s.offered l now draw = (s, [])) := hid (if_neg (by simp [h2]))
      rw [HG.out]
      clear h1 h2
      go_enter Try.func42, Try.ntmps42
      go_wp2_with fail
      go_ret
      exact step_none OM.out QM.out
    · have e2 : (l.yo == 0) = false := by simp [h2]
      by_cases h3 : l.sv = 0
      · have e3 : (l.sv == 0) = true := by simp [h3]
        have HG : Hid (s.offered l now draw = (s, [])) := hid (if_neg (by simp [h3]))
        rw [HG.out]
        clear h1 h2 h3
        go_enter Try.func42, Try.ntmps42
        go_wp2_with fail
        go_ret
        exact step_none OM.out QM.out
      · have e3 : (l.sv == 0) = false := by simp [h3]
        have HG : Hid (s.offered l now draw = ({s with st := 2, of := l, tr := 1, due := laterZ now 40}, [s.sent 3 l.yo l.sv])) := hid (if_pos ⟨h1, h2, h3⟩)
        rw [HG.out]
        clear h1 h2 h3
        go_enter Try.func42, Try.ntmps42
        go_wp2_with fail
        refine wp_region_noPanic ?_
        refine rgn.regionT (R := Only [m]) (by kernel_rfl) (Only.refl [m]) (fun _ _ _ => Only.trans) (fun _ _ _ _ _ h => h) (.y 0 (.y 1 (.y 2 (.y 3 (.y 4 (.e 5 (.y 6 (.y 7 (.e 8 .z))))))))) (by kernel_rfl) (fun W hWd => ?_)
        have HWd := hid hWd; clear hWd
        have q8 : Only [] W1 W := Only.eq_drew (Only.refl [] _) HWd.out
        have OM := hid (OM.out.only q8 (by simp)); have OB := hid (OB.out.only q8 (by simp)); have QM := hid (QM.out.trans (q8.more (by simp)))
        clear q8 HWd c2 c4 c5 e1 e2 e3
        refine rgn.Walk.ys (v := ?_) rfl rfl rfl ?_ ?_
        rotate_left 1
        · intro W' hW'
          go_simp
          try with_reducible rfl
        try simp only [Act.put, List.setIfInBounds_toArray, List.set_cons_zero, List.set_cons_succ]
        refine rgn.Walk.ys (v := ?_) rfl rfl rfl ?_ ?_
        rotate_left 1
        · intro W' hW'
          go_simp
          try with_reducible rfl
        try simp only [Act.put, List.setIfInBounds_toArray, List.set_cons_zero, List.set_cons_succ]
        refine rgn.Walk.ys rfl rfl rfl (fun W' hW' => exec_lm _ _ rfl b 0 rfl l (r_all (OB.out.only hW' (by simpa using fun e => HN.out e.symm))) Try.underlying27 rfl (by kernel_rfl)) ?_
        try simp only [Act.put, List.setIfInBounds_toArray, List.set_cons_zero, List.set_cons_succ]
        refine rgn.Walk.ys (v := ?_) rfl rfl rfl ?_ ?_
        rotate_left 1
        · intro W' hW'
          go_simp
          try with_reducible rfl
        try simp only [Act.put, List.setIfInBounds_toArray, List.set_cons_zero, List.set_cons_succ]
        refine rgn.Walk.ys (v := ?_) rfl rfl rfl ?_ ?_
        rotate_left 1
        · intro W' hW'
          go_simp
          try with_reducible rfl
        try simp only [Act.put, List.setIfInBounds_toArray, List.set_cons_zero, List.set_cons_succ]
        refine rgn.Walk.es ?_
        refine rgn.stepE rfl rfl (fun K hK => ?_)
        refine op_put _ _ _ rfl m 6 rfl (.int .i64 2) rfl OM.out (by kernel_rfl) (Nat.le_trans (show _ ≤ 43 from Nat.le_of_ble_eq_true rfl) (mcs_size _ _)) (one_i _ _) (p_st OM.out 2) (fun W9 hb9 o9 => ?_)
        refine hK _ _ o9 ?_
        clear hK K
        try simp only [Act.put, List.setIfInBounds_toArray, List.set_cons_zero, List.set_cons_succ]
        have OM := hid hb9; have QM := hid (QM.out.trans o9)
        have OB := hid (OB.out.only o9 (by simpa using fun e => HN.out e.symm))
        clear hb9 o9
        refine rgn.Walk.ys (v := ?_) rfl rfl rfl ?_ ?_
        rotate_left 1
        · intro W' hW'
          go_simp
          try with_reducible rfl
        try simp only [Act.put, List.setIfInBounds_toArray, List.set_cons_zero, List.set_cons_succ]
        refine rgn.Walk.ys (v := ?_) rfl rfl rfl ?_ ?_
        rotate_left 1
        · intro W' hW'
          go_simp
          try with_reducible rfl
        try simp only [Act.put, List.setIfInBounds_toArray, List.set_cons_zero, List.set_cons_succ]
        refine rgn.Walk.es ?_
        refine rgn.stepE rfl rfl (fun K hK => ?_)
        refine op_put _ _ _ rfl m 10 rfl (.agg l.cs) rfl OM.out (by kernel_rfl) (Nat.le_trans (show _ ≤ 43 from Nat.le_of_ble_eq_true rfl) (mcs_size _ _)) (one_l _) (p_of OM.out l) (fun W9 hb9 o9 => ?_)
        refine hK _ _ o9 ?_
        clear hK K
        try simp only [Act.put, List.setIfInBounds_toArray, List.set_cons_zero, List.set_cons_succ]
        have OM := hid hb9; have QM := hid (QM.out.trans o9)
        have OB := hid (OB.out.only o9 (by simpa using fun e => HN.out e.symm))
        clear hb9 o9
        refine rgn.Walk.zs (NoPanic.normal ?_)
        go_wp2_with (first | (refine wp_put rfl _ _ _ rfl m 9 rfl (.int .i64 1) rfl OM.out (by kernel_rfl) (Nat.le_trans (show _ ≤ 43 from Nat.le_of_ble_eq_true rfl) (mcs_size _ _)) (one_i _ _) (p_tr OM.out 1) ?_) | fail)
        intro W9 hb9 o9
        try simp only [Act.put, List.setIfInBounds_toArray, List.set_cons_zero, List.set_cons_succ]
        have OM := hid hb9; have QM := hid (QM.out.trans o9)
        clear hb9 o9
        go_wp2_with fail
        refine (later1 _ now 40 (by omega) ⟨by have := HNow.out; unfold Tk at this; omega, HNow.out.2⟩).mono ?_
        rintro x w2 ⟨rfl, rfl⟩
        go_wp2_with (first | (refine wp_put rfl _ _ _ rfl m 8 rfl (.int .i64 (laterZ now 40)) rfl OM.out (by kernel_rfl) (Nat.le_trans (show _ ≤ 43 from Nat.le_of_ble_eq_true rfl) (mcs_size _ _)) (one_i _ _) (p_due OM.out (laterZ now 40)) ?_) | fail)
        intro W9 hb9 o9
        try simp only [Act.put, List.setIfInBounds_toArray, List.set_cons_zero, List.set_cons_succ]
        have OM := hid hb9; have QM := hid (QM.out.trans o9)
        clear hb9 o9
        go_wp2_with fail
        refine (request1 _ m T tl _ OM.out).mono ?_
        rintro x w3 ⟨A, n, c, rfl, hl, hr, hf, o3⟩
        have HL := hid hl; have HR := hid hr; have HF := hid hf; have OM := hid (OM.out.only o3 (by simp)); have HZ := hid QM.out.size; have QM := hid (QM.out.trans (o3.more (by simp)))
        clear hl hr hf o3
        go_wp2_with fail
        go_ret
        exact ⟨A, n, c, rfl, HL.out, HR.out, fun b off e => Nat.le_trans HZ.out (HF.out b off e), OM.out, QM.out⟩
  · have e1 : (l.ty != 2) = true := by simp [h1]
    have HG : Hid (s.offered l now draw = (s, [])) := hid (if_neg (by simp [h1]))
    rw [HG.out]
    clear h1
    go_enter Try.func42, Try.ntmps42
    go_wp2_with fail
    go_ret
    exact step_none OM.out QM.out
set_option maxRecDepth 100000 in
set_option maxHeartbeats 8000000 in
theorem tryAgain1 (w : World) (m : Nat) (T : TypeId) (tl : List Value) (s : Mc) (now draw : Int) (hO : Ob w m T (s.cs tl)) (hn : Tk now) (ht : 0 ≤ s.tr ∧ s.tr ≤ 4) :
    Calls Try.prog 46 #[.pointer (some ⟨m, 0, none⟩), .int .i64 now, .int .i64 draw] w (StepE m T tl (s.again now draw).1 (s.again now draw).2 w) := by
  have OM := hid hO; have QM := hid (Only.refl [m] w); have HNow := hid hn
  clear hO hn
  have k9 := k_tr OM.out
  by_cases h4 : 4 ≤ s.tr
  · have HG : Hid (s.again now draw = (s.begin now draw, [(s.begin now draw).sent 1 0 0])) := hid (if_pos h4)
    rw [HG.out]
    go_enter Try.func46, Try.ntmps46
    go_wp2_with fail
    refine (begin1 _ m T tl s now draw OM.out HNow.out).mono ?_
    rintro x w3 ⟨A, n, c, rfl, hl, hr, hf, hO3, o3⟩
    have HL := hid hl; have HR := hid hr; have HF := hid hf; have OM := hid hO3; have HZ := hid QM.out.size; have QM := hid (QM.out.trans o3)
    clear hl hr hf hO3 o3
    clear k9
    go_wp2_with fail
    go_ret
    exact ⟨A, n, c, rfl, HL.out, HR.out, fun b off e => Nat.le_trans HZ.out (HF.out b off e), OM.out, QM.out⟩
  · have HG : Hid (s.again now draw = ({s with tr := s.tr + 1, due := laterZ now (40 * (s.tr + 1))}, [s.asks])) := hid (if_neg h4)
    rw [HG.out]
    obtain ⟨z, hz⟩ : ∃ z, s.tr + 1 = z := ⟨_, rfl⟩
    have hzb : 1 ≤ z ∧ z ≤ 4 := by omega
    have w1 : IntKind.i64.wrap (s.tr + 1) = z := by rw [hz]; exact i64_in _ (by omega)
    have w2 : IntKind.i64.wrap (40 * z) = 40 * z := i64_in _ (by omega)
    rw [hz]
    clear hz ht
    have h4 : ¬ 4 ≤ s.tr := h4
    go_enter Try.func46, Try.ntmps46
    go_wp2_with (first | (refine wp_put rfl _ _ _ rfl m 9 rfl (.int .i64 z) rfl OM.out (by kernel_rfl) (Nat.le_trans (show _ ≤ 43 from Nat.le_of_ble_eq_true rfl) (mcs_size _ _)) (one_i _ _) (p_tr OM.out z) ?_) | fail)
    intro W9 hb9 o9
    try simp only [Act.put, List.setIfInBounds_toArray, List.set_cons_zero, List.set_cons_succ]
    have OM := hid hb9; have QM := hid (QM.out.trans o9)
    clear hb9 o9
    clear k9 w1 h4
    have k9 : W9.cell? ⟨m, 9, none⟩ = some (.int .i64 z) := by have h9 := k_tr OM.out; exact h9
    go_wp2_with fail
    refine (later1 _ now (40 * z) (by omega) ⟨by have := HNow.out; unfold Tk at this; omega, HNow.out.2⟩).mono ?_
    rintro x w2 ⟨rfl, rfl⟩
    go_wp2_with (first | (refine wp_put rfl _ _ _ rfl m 8 rfl (.int .i64 (laterZ now (40 * z))) rfl OM.out (by kernel_rfl) (Nat.le_trans (show _ ≤ 43 from Nat.le_of_ble_eq_true rfl) (mcs_size _ _)) (one_i _ _) (p_due OM.out (laterZ now (40 * z))) ?_) | fail)
    intro W9 hb9 o9
    try simp only [Act.put, List.setIfInBounds_toArray, List.set_cons_zero, List.set_cons_succ]
    have OM := hid hb9; have QM := hid (QM.out.trans o9)
    clear hb9 o9
    clear k9 w2
    have k6 : W9.cell? ⟨m, 6, none⟩ = some (.int .i64 s.st) := by have h9 := k_st OM.out; exact h9
    by_cases h1 : s.st = 1
    · have e1 : (s.st == 1) = true := by simp [h1]
      have HAS : Hid (s.asks = s.sent 1 0 0) := hid (if_pos h1)
      clear h1
      go_wp2_with fail
      refine (discover1 _ m T tl _ OM.out).mono ?_
      rintro x w3 ⟨A, n, c, rfl, hl, hr, hf, o3⟩
      have HL := hid hl; have HR := hid hr; have HF := hid hf; have OM := hid (OM.out.only o3 (by simp)); have HZ := hid QM.out.size; have QM := hid (QM.out.trans (o3.more (by simp)))
      clear hl hr hf o3
      clear k6 e1
      go_wp2_with fail
      go_ret
      exact ⟨A, n, c, rfl, HL.out, (by rw [HAS.out]; exact HR.out), fun b off e => Nat.le_trans HZ.out (HF.out b off e), OM.out, QM.out⟩
    · have e1 : (s.st == 1) = false := by simp [h1]
      have HAS : Hid (s.asks = s.sent 3 s.of.yo s.of.sv) := hid (if_neg h1)
      clear h1
      go_wp2_with fail
      refine (request1 _ m T tl _ OM.out).mono ?_
      rintro x w3 ⟨A, n, c, rfl, hl, hr, hf, o3⟩
      have HL := hid hl; have HR := hid hr; have HF := hid hf; have OM := hid (OM.out.only o3 (by simp)); have HZ := hid QM.out.size; have QM := hid (QM.out.trans (o3.more (by simp)))
      clear hl hr hf o3
      clear k6 e1
      go_wp2_with fail
      go_ret
      exact ⟨A, n, c, rfl, HL.out, (by rw [HAS.out]; exact HR.out), fun b off e => Nat.le_trans HZ.out (HF.out b off e), OM.out, QM.out⟩
set_option maxRecDepth 100000 in
set_option maxHeartbeats 8000000 in
theorem renew1 (w : World) (m : Nat) (T : TypeId) (tl : List Value) (s : Mc) (now draw : Int) (hO : Ob w m T (s.cs tl)) (hn : Tk now) (ht : 0 ≤ s.le.ti ∧ s.le.ti ≤ 2147483647) (hbe : Tk s.be) :
    Calls Try.prog 47 #[.pointer (some ⟨m, 0, none⟩), .int .i64 now, .int .i64 draw] w (StepE m T tl (s.renew now).1 (s.renew now).2 w) := by
  have OM := hid hO; have QM := hid (Only.refl [m] w); have HNow := hid hn
  clear hO hn
  have HTI := hid ht; have HBE := hid hbe
  clear ht hbe
  have k6 := k_st OM.out
  by_cases h3 : s.st = 3
  · have e3 : (s.st == 3) = true := by simp [h3]
    have HG : Hid (s.renew now = ({s with st := 4, due := laterZ now 60}, [s.sent 3 s.le.yo 0])) := hid (by unfold Mc.renew; rw [if_pos h3])
    rw [HG.out]
    clear h3
    go_enter Try.func47, Try.ntmps47
    go_wp2_with (first | (refine wp_put rfl _ _ _ rfl m 6 rfl (.int .i64 4) rfl OM.out (by kernel_rfl) (Nat.le_trans (show _ ≤ 43 from Nat.le_of_ble_eq_true rfl) (mcs_size _ _)) (one_i _ _) (p_st OM.out 4) ?_) | fail)
    intro W9 hb9 o9
    try simp only [Act.put, List.setIfInBounds_toArray, List.set_cons_zero, List.set_cons_succ]
    have OM := hid hb9; have QM := hid (QM.out.trans o9)
    clear hb9 o9
    clear k6 e3
    go_wp2_with fail
    refine (later1 _ now 60 (by omega) ⟨by have := HNow.out; unfold Tk at this; omega, HNow.out.2⟩).mono ?_
    rintro x w2 ⟨rfl, rfl⟩
    go_wp2_with (first | (refine wp_put rfl _ _ _ rfl m 8 rfl (.int .i64 (laterZ now 60)) rfl OM.out (by kernel_rfl) (Nat.le_trans (show _ ≤ 43 from Nat.le_of_ble_eq_true rfl) (mcs_size _ _)) (one_i _ _) (p_due OM.out (laterZ now 60)) ?_) | fail)
    intro W9 hb9 o9
    try simp only [Act.put, List.setIfInBounds_toArray, List.set_cons_zero, List.set_cons_succ]
    have OM := hid hb9; have QM := hid (QM.out.trans o9)
    clear hb9 o9
    have k28 : W9.cell? ⟨m, 28, none⟩ = some (.int .u32 s.le.yo) := by have h9 := k_le_yo OM.out; exact h9
    go_wp2_with fail
    refine (message1 _ m T tl _ 3 s.le.yo 0 OM.out).mono ?_
    rintro x w3 ⟨A, n, c, rfl, hl, hr, hf, o3⟩
    have HL := hid hl; have HR := hid hr; have HF := hid hf; have OM := hid (OM.out.only o3 (by simp)); have HZ := hid QM.out.size; have QM := hid (QM.out.trans (o3.more (by simp)))
    clear hl hr hf o3
    clear k28
    go_wp2_with fail
    go_ret
    exact ⟨A, n, c, rfl, HL.out, HR.out, fun b off e => Nat.le_trans HZ.out (HF.out b off e), OM.out, QM.out⟩
  · have e3 : (s.st == 3) = false := by simp [h3]
    obtain ⟨z, hz⟩ : ∃ z, s.le.ti = z := ⟨_, rfl⟩
    have HZE := hid hz
    have hzb : 0 ≤ z ∧ z ≤ 2147483647 := by rw [← hz]; exact HTI.out
    obtain ⟨u, hu⟩ : ∃ u, 10 * z * 7 / 8 = u := ⟨_, rfl⟩
    have w1 : IntKind.i64.wrap (10 * z * 7) = 10 * z * 7 := i64_in _ (by omega)
    have w2 : IntKind.i64.wrap ((10 * z * 7).tdiv 8) = u := by rw [Int.tdiv_eq_ediv_of_nonneg (by omega), hu]; exact i64_in _ (by omega)
    have HUB : Hid (0 ≤ u ∧ u ≤ 9223372036854775807) := hid (by omega)
    have HU := hid hu
    obtain ⟨la, hla⟩ : ∃ la, laterZ s.be u = la := ⟨_, rfl⟩
    have HLA := hid hla
    have HZB := hid hzb
    clear hz hu hla hzb
    by_cases hge : la ≤ now
    · have HG : Hid (s.renew now = ({s with st := 5, due := laterZ now 60}, [s.sent 3 s.le.yo 0])) := hid (by unfold Mc.renew; rw [if_neg h3, HZE.out, HU.out, HLA.out, if_pos hge])
      rw [HG.out]
      clear h3
      go_enter Try.func47, Try.ntmps47
      go_wp2_with fail
      refine wp_region_noPanic ?_
      refine rgn.regionT (R := Only []) (by kernel_rfl) (Only.refl []) (fun _ _ _ => Only.trans) (fun _ _ _ _ _ h => h) (.y 0 (.y 1 (.y 2 (.y 3 (.y 4 (.y 5 (.e 6 (.y 7 (.y 8 (.e 9 (.y 10 (.e 11 .z)))))))))))) (by kernel_rfl) (fun W hWd => ?_)
      have HWd := hid hWd; clear hWd
      have q8 : Only [] w W := Only.eq_drew (Only.refl [] _) HWd.out
      have OM := hid (OM.out.only q8 (by simp)); have QM := hid (QM.out.trans (q8.more (by simp)))
      clear q8 HWd k6 e3
      refine rgn.Walk.ys (v := ?_) rfl rfl rfl ?_ ?_
      rotate_left 1
      · intro W' hW'
        go_simp
        try with_reducible rfl
      try simp only [Act.put, List.setIfInBounds_toArray, List.set_cons_zero, List.set_cons_succ]
      refine rgn.Walk.ys (v := ?_) rfl rfl rfl ?_ ?_
      rotate_left 1
      · intro W' hW'
        go_simp
        try with_reducible rfl
      try simp only [Act.put, List.setIfInBounds_toArray, List.set_cons_zero, List.set_cons_succ]
      refine rgn.Walk.ys (v := ?_) rfl rfl rfl ?_ ?_
      rotate_left 1
      · intro W' hW'
        go_simp
        try with_reducible rfl
      try simp only [Act.put, List.setIfInBounds_toArray, List.set_cons_zero, List.set_cons_succ]
      refine rgn.Walk.ys (v := ?_) rfl rfl rfl ?_ ?_
      rotate_left 1
      · intro W' hW'
        go_simp
        try with_reducible rfl
      try simp only [Act.put, List.setIfInBounds_toArray, List.set_cons_zero, List.set_cons_succ]
      refine rgn.Walk.ys (v := ?_) rfl rfl rfl ?_ ?_
      rotate_left 1
      · intro W' hW'
        have q0 := k_be (OM.out.only hW' (by simp))
        go_simp
        try with_reducible rfl
      try simp only [Act.put, List.setIfInBounds_toArray, List.set_cons_zero, List.set_cons_succ]
      refine rgn.Walk.ys (v := ?_) rfl rfl rfl ?_ ?_
      rotate_left 1
      · intro W' hW'
        go_simp
        try with_reducible rfl
      try simp only [Act.put, List.setIfInBounds_toArray, List.set_cons_zero, List.set_cons_succ]
      refine rgn.Walk.es ?_
      refine rgn.stepE rfl rfl (fun K hK => ?_)
      go_simp
      refine (dur1 _ m T tl s OM.out HTI.out).mono ?_
      rintro x w5 ⟨rfl, rfl⟩
      rw [HZE.out]
      refine hK _ _ (Only.refl _ _) ?_
      clear hK K
      try simp only [Act.put, List.setIfInBounds_toArray, List.set_cons_zero, List.set_cons_succ]
      refine rgn.Walk.ys (v := ?_) rfl rfl rfl ?_ ?_
      rotate_left 1
      · intro W' hW'
        go_simp
        try with_reducible rfl
      try simp only [Act.put, List.setIfInBounds_toArray, List.set_cons_zero, List.set_cons_succ]
      refine rgn.Walk.ys (v := ?_) rfl rfl rfl ?_ ?_
      rotate_left 1
      · intro W' hW'
        go_simp
        try with_reducible rfl
      try simp only [Act.put, List.setIfInBounds_toArray, List.set_cons_zero, List.set_cons_succ]
      refine rgn.Walk.es ?_
      refine rgn.stepE rfl rfl (fun K hK => ?_)
      go_simp
      refine (later1 _ s.be u HUB.out ⟨by have := HBE.out; unfold Tk at this; omega, HBE.out.2⟩).mono ?_
      rintro x w5 ⟨rfl, rfl⟩
      rw [HLA.out]
      refine hK _ _ (Only.refl _ _) ?_
      clear hK K
      try simp only [Act.put, List.setIfInBounds_toArray, List.set_cons_zero, List.set_cons_succ]
      refine rgn.Walk.ys (v := ?_) rfl rfl rfl ?_ ?_
      rotate_left 1
      · intro W' hW'
        go_simp
        try with_reducible rfl
      try simp only [Act.put, List.setIfInBounds_toArray, List.set_cons_zero, List.set_cons_succ]
      refine rgn.Walk.es ?_
      refine rgn.stepE rfl rfl (fun K hK => ?_)
      go_simp
      refine hK _ _ ((Only.refl []) _) ?_
      clear hK K
      try simp only [Act.put, List.setIfInBounds_toArray, List.set_cons_zero, List.set_cons_succ]
      refine rgn.Walk.zs (NoPanic.normal ?_)
      go_wp2_with (first | (refine wp_put rfl _ _ _ rfl m 6 rfl (.int .i64 5) rfl OM.out (by kernel_rfl) (Nat.le_trans (show _ ≤ 43 from Nat.le_of_ble_eq_true rfl) (mcs_size _ _)) (one_i _ _) (p_st OM.out 5) ?_) | fail)
      intro W9 hb9 o9
      try simp only [Act.put, List.setIfInBounds_toArray, List.set_cons_zero, List.set_cons_succ]
      have OM := hid hb9; have QM := hid (QM.out.trans o9)
      clear hb9 o9
      clear w1 w2 hge
      go_wp2_with fail
      refine (later1 _ now 60 (by omega) ⟨by have := HNow.out; unfold Tk at this; omega, HNow.out.2⟩).mono ?_
      rintro x w2 ⟨rfl, rfl⟩
      go_wp2_with (first | (refine wp_put rfl _ _ _ rfl m 8 rfl (.int .i64 (laterZ now 60)) rfl OM.out (by kernel_rfl) (Nat.le_trans (show _ ≤ 43 from Nat.le_of_ble_eq_true rfl) (mcs_size _ _)) (one_i _ _) (p_due OM.out (laterZ now 60)) ?_) | fail)
      intro W9 hb9 o9
      try simp only [Act.put, List.setIfInBounds_toArray, List.set_cons_zero, List.set_cons_succ]
      have OM := hid hb9; have QM := hid (QM.out.trans o9)
      clear hb9 o9
      have k28 : W9.cell? ⟨m, 28, none⟩ = some (.int .u32 s.le.yo) := by have h9 := k_le_yo OM.out; exact h9
      go_wp2_with fail
      refine (message1 _ m T tl _ 3 s.le.yo 0 OM.out).mono ?_
      rintro x w3 ⟨A, n, c, rfl, hl, hr, hf, o3⟩
      have HL := hid hl; have HR := hid hr; have HF := hid hf; have OM := hid (OM.out.only o3 (by simp)); have HZ := hid QM.out.size; have QM := hid (QM.out.trans (o3.more (by simp)))
      clear hl hr hf o3
      clear k28
      go_wp2_with fail
      go_ret
      exact ⟨A, n, c, rfl, HL.out, HR.out, fun b off e => Nat.le_trans HZ.out (HF.out b off e), OM.out, QM.out⟩
    · have HG : Hid (s.renew now = ({s with due := laterZ now 60}, [s.sent 3 s.le.yo 0])) := hid (by unfold Mc.renew; rw [if_neg h3, HZE.out, HU.out, HLA.out, if_neg hge])
      rw [HG.out]
      clear h3
      go_enter Try.func47, Try.ntmps47
      go_wp2_with fail
      refine wp_region_noPanic ?_
      refine rgn.regionT (R := Only []) (by kernel_rfl) (Only.refl []) (fun _ _ _ => Only.trans) (fun _ _ _ _ _ h => h) (.y 0 (.y 1 (.y 2 (.y 3 (.y 4 (.y 5 (.e 6 (.y 7 (.y 8 (.e 9 (.y 10 (.e 11 .z)))))))))))) (by kernel_rfl) (fun W hWd => ?_)
      have HWd := hid hWd; clear hWd
      have q8 : Only [] w W := Only.eq_drew (Only.refl [] _) HWd.out
      have OM := hid (OM.out.only q8 (by simp)); have QM := hid (QM.out.trans (q8.more (by simp)))
      clear q8 HWd k6 e3
      refine rgn.Walk.ys (v := ?_) rfl rfl rfl ?_ ?_
      rotate_left 1
      · intro W' hW'
        go_simp
        try with_reducible rfl
      try simp only [Act.put, List.setIfInBounds_toArray, List.set_cons_zero, List.set_cons_succ]
      refine rgn.Walk.ys (v := ?_) rfl rfl rfl ?_ ?_
      rotate_left 1
      · intro W' hW'
        go_simp
        try with_reducible rfl
      try simp only [Act.put, List.setIfInBounds_toArray, List.set_cons_zero, List.set_cons_succ]
      refine rgn.Walk.ys (v := ?_) rfl rfl rfl ?_ ?_
      rotate_left 1
      · intro W' hW'
        go_simp
        try with_reducible rfl
      try simp only [Act.put, List.setIfInBounds_toArray, List.set_cons_zero, List.set_cons_succ]
      refine rgn.Walk.ys (v := ?_) rfl rfl rfl ?_ ?_
      rotate_left 1
      · intro W' hW'
        go_simp
        try with_reducible rfl
      try simp only [Act.put, List.setIfInBounds_toArray, List.set_cons_zero, List.set_cons_succ]
      refine rgn.Walk.ys (v := ?_) rfl rfl rfl ?_ ?_
      rotate_left 1
      · intro W' hW'
        have q0 := k_be (OM.out.only hW' (by simp))
        go_simp
        try with_reducible rfl
      try simp only [Act.put, List.setIfInBounds_toArray, List.set_cons_zero, List.set_cons_succ]
      refine rgn.Walk.ys (v := ?_) rfl rfl rfl ?_ ?_
      rotate_left 1
      · intro W' hW'
        go_simp
        try with_reducible rfl
      try simp only [Act.put, List.setIfInBounds_toArray, List.set_cons_zero, List.set_cons_succ]
      refine rgn.Walk.es ?_
      refine rgn.stepE rfl rfl (fun K hK => ?_)
      go_simp
      refine (dur1 _ m T tl s OM.out HTI.out).mono ?_
      rintro x w5 ⟨rfl, rfl⟩
      rw [HZE.out]
      refine hK _ _ (Only.refl _ _) ?_
      clear hK K
      try simp only [Act.put, List.setIfInBounds_toArray, List.set_cons_zero, List.set_cons_succ]
      refine rgn.Walk.ys (v := ?_) rfl rfl rfl ?_ ?_
      rotate_left 1
      · intro W' hW'
        go_simp
        try with_reducible rfl
      try simp only [Act.put, List.setIfInBounds_toArray, List.set_cons_zero, List.set_cons_succ]
      refine rgn.Walk.ys (v := ?_) rfl rfl rfl ?_ ?_
      rotate_left 1
      · intro W' hW'
        go_simp
        try with_reducible rfl
      try simp only [Act.put, List.setIfInBounds_toArray, List.set_cons_zero, List.set_cons_succ]
      refine rgn.Walk.es ?_
      refine rgn.stepE rfl rfl (fun K hK => ?_)
      go_simp
      refine (later1 _ s.be u HUB.out ⟨by have := HBE.out; unfold Tk at this; omega, HBE.out.2⟩).mono ?_
      rintro x w5 ⟨rfl, rfl⟩
      rw [HLA.out]
      refine hK _ _ (Only.refl _ _) ?_
      clear hK K
      try simp only [Act.put, List.setIfInBounds_toArray, List.set_cons_zero, List.set_cons_succ]
      refine rgn.Walk.ys (v := ?_) rfl rfl rfl ?_ ?_
      rotate_left 1
      · intro W' hW'
        go_simp
        try with_reducible rfl
      try simp only [Act.put, List.setIfInBounds_toArray, List.set_cons_zero, List.set_cons_succ]
      refine rgn.Walk.es ?_
      refine rgn.stepE rfl rfl (fun K hK => ?_)
      go_simp
      refine hK _ _ ((Only.refl []) _) ?_
      clear hK K
      try simp only [Act.put, List.setIfInBounds_toArray, List.set_cons_zero, List.set_cons_succ]
      refine rgn.Walk.zs (NoPanic.normal ?_)
      go_wp2_with fail
      refine (later1 _ now 60 (by omega) ⟨by have := HNow.out; unfold Tk at this; omega, HNow.out.2⟩).mono ?_
      rintro x w2 ⟨rfl, rfl⟩
      go_wp2_with (first | (refine wp_put rfl _ _ _ rfl m 8 rfl (.int .i64 (laterZ now 60)) rfl OM.out (by kernel_rfl) (Nat.le_trans (show _ ≤ 43 from Nat.le_of_ble_eq_true rfl) (mcs_size _ _)) (one_i _ _) (p_due OM.out (laterZ now 60)) ?_) | fail)
      intro W9 hb9 o9
      try simp only [Act.put, List.setIfInBounds_toArray, List.set_cons_zero, List.set_cons_succ]
      have OM := hid hb9; have QM := hid (QM.out.trans o9)
      clear hb9 o9
      have k28 : W9.cell? ⟨m, 28, none⟩ = some (.int .u32 s.le.yo) := by have h9 := k_le_yo OM.out; exact h9
      go_wp2_with fail
      refine (message1 _ m T tl _ 3 s.le.yo 0 OM.out).mono ?_
      rintro x w3 ⟨A, n, c, rfl, hl, hr, hf, o3⟩
      have HL := hid hl; have HR := hid hr; have HF := hid hf; have OM := hid (OM.out.only o3 (by simp)); have HZ := hid QM.out.size; have QM := hid (QM.out.trans (o3.more (by simp)))
      clear hl hr hf o3
      clear k28
      go_wp2_with fail
      go_ret
      exact ⟨A, n, c, rfl, HL.out, HR.out, fun b off e => Nat.le_trans HZ.out (HF.out b off e), OM.out, QM.out⟩
end Go.Proofs.Ytdpmjghdmpaehaa.lp
/-
  Chapter 23 (lease): the program's client: New, Start, State, Has and Release, by a walk of each text. Conditions: none but those typed.
-/
namespace Go.Proofs.Ytdpmjghdmpaehaa.lp
set_option linter.unusedVariables false
set_option linter.unusedSimpArgs false
open Go.ChangeShapes Go.WideShapes Go.ChangeAt Go.RowKit Go.IntWalk Go.Lib
def hearV (m : Nat) : List Value := [.func (Fn.func 41) #[.pointer (some ⟨m, 0, none⟩)] #[], .func (Fn.func 42) #[.pointer (some ⟨m, 0, none⟩)] #[], .func (Fn.func 43) #[.pointer (some ⟨m, 0, none⟩)] #[], .func (Fn.func 41) #[.pointer (some ⟨m, 0, none⟩)] #[], .func (Fn.func 44) #[.pointer (some ⟨m, 0, none⟩)] #[], .func (Fn.func 44) #[.pointer (some ⟨m, 0, none⟩)] #[]]
def tickV (m : Nat) : List Value := [.func (Fn.func 45) #[.pointer (some ⟨m, 0, none⟩)] #[], .func (Fn.func 46) #[.pointer (some ⟨m, 0, none⟩)] #[], .func (Fn.func 46) #[.pointer (some ⟨m, 0, none⟩)] #[], .func (Fn.func 47) #[.pointer (some ⟨m, 0, none⟩)] #[], .func (Fn.func 47) #[.pointer (some ⟨m, 0, none⟩)] #[], .func (Fn.func 47) #[.pointer (some ⟨m, 0, none⟩)] #[]]
def nilV : List Value := [.nilFunc, .nilFunc, .nilFunc, .nilFunc, .nilFunc, .nilFunc]
/-- A client in memory. -/
structure CI (w : World) (g m : Nat) (s : Mc) : Prop where
  cl : Ob w g 84 #[.pointer (some ⟨m, 0, none⟩)]
  ob : Ob w m 82 (s.cs (hearV m ++ tickV m))
theorem CI.ne {w : World} {g m : Nat} {s : Mc} (h : CI w g m s) : g ≠ m := fun e => by
  have h1 := h.cl; have h2 := h.ob
  subst e
  unfold Ob at h1 h2
  rw [h1] at h2
  injection h2 with h2; injection h2 with _ h2 _; exact absurd h2 (by decide)
theorem CI.only {S : List Nat} {w w' : World} {g m : Nat} {s : Mc} (h : CI w g m s) (o : Only S w w') (hg : g ∉ S) (hm : m ∉ S) : CI w' g m s := ⟨h.cl.only o hg, h.ob.only o hm⟩
theorem CI.nil {w w' : World} {g m : Nat} {s : Mc} (h : CI w g m s) (o : Only [] w w') : CI w' g m s := h.only o (by simp) (by simp)
def Mc.new (a0 a1 a2 a3 a4 a5 : Int) : Mc := ⟨a0, a1, a2, a3, a4, a5, 0, 0, 0, 0, Lm.zero, Lm.zero, 0⟩
theorem p_h {w : World} {m : Nat} {T : TypeId} {a b : List Value} {s : Mc} (h : Ob w m T (s.cs (a ++ b))) (v : List Value) (hv : v.length = a.length) : Ob (w.setCells m 43 v) m T (s.cs (v ++ b)) := by
  have := Ob.setMid (pre := s.pre ++ s.of.enc ++ s.le.enc ++ [.int .i64 s.be]) (mid := a) (post := b) (vs := v) 43 (by simpa [Mc.cs] using h) rfl hv
  simpa [Mc.cs] using this
theorem p_t {w : World} {m : Nat} {T : TypeId} {a b : List Value} {s : Mc} (h : Ob w m T (s.cs (a ++ b))) (v : List Value) (ha : a.length = 6) (hv : v.length = b.length) : Ob (w.setCells m 49 v) m T (s.cs (a ++ v)) := by
  have := Ob.setMid (pre := s.pre ++ s.of.enc ++ s.le.enc ++ [.int .i64 s.be] ++ a) (mid := b) (post := []) (vs := v) 49 (by simpa [Mc.cs] using h) (by simp [ha, Mc.pre, Lm.enc]) hv
  simpa [Mc.cs] using this
theorem one_t (m : Nat) : (Value.agg (tickV m).toArray).cells.all (·.oneCell') = true := Array.all_eq_true_iff_forall_mem.2 (fun v hv => by
  simp only [Value.cells, List.mem_toArray, tickV, List.mem_cons, List.not_mem_nil, or_false] at hv
  rcases hv with rfl | rfl | rfl | rfl | rfl | rfl <;> rfl)
theorem one_h (m : Nat) : (Value.agg (hearV m).toArray).cells.all (·.oneCell') = true := Array.all_eq_true_iff_forall_mem.2 (fun v hv => by
  simp only [Value.cells, List.mem_toArray, hearV, List.mem_cons, List.not_mem_nil, or_false] at hv
  rcases hv with rfl | rfl | rfl | rfl | rfl | rfl <;> rfl)
def NewE (s : Mc) (w : World) (x : Ending) (w' : World) : Prop := ∃ g m, x = .returned (.pointer (some ⟨g, 0, none⟩)) ∧ CI w' g m s ∧ w.heap.size ≤ g ∧ w.heap.size ≤ m ∧ Only [] w w'
set_option maxRecDepth 100000 in
set_option maxHeartbeats 8000000 in
theorem new1 (w : World) (a0 a1 a2 a3 a4 a5 : Int) :
    Calls Try.prog 15 #[.agg #[.int .u8 a0, .int .u8 a1, .int .u8 a2, .int .u8 a3, .int .u8 a4, .int .u8 a5]] w (NewE (Mc.new a0 a1 a2 a3 a4 a5) w) := by
  obtain ⟨W1, hW1⟩ : ∃ W1, w.alloc (.cells #[.int .u8 a0, .int .u8 a1, .int .u8 a2, .int .u8 a3, .int .u8 a4, .int .u8 a5] 25) = W1 := ⟨_, rfl⟩
  have o1 : Only [] w W1 := by rw [← hW1]; exact (Only.refl [] w).alloc _
  have e0 := (show Ob W1 w.heap.size 25 #[.int .u8 a0, .int .u8 a1, .int .u8 a2, .int .u8 a3, .int .u8 a4, .int .u8 a5] from by rw [← hW1]; exact Ob.new _ _ _)
  obtain ⟨W2, hW2⟩ : ∃ W2, W1.alloc (.cells #[.int .u8 a0, .int .u8 a1, .int .u8 a2, .int .u8 a3, .int .u8 a4, .int .u8 a5, .int .i64 0, .int .u32 0, .int .i64 0, .int .i64 0, .int .i64 0, .int .u32 0, .int .u32 0, .int .u8 0, .int .u8 0, .int .u8 0, .int .u8 0, .int .u8 0, .int .u8 0, .int .i64 0, .int .u32 0, .int .u32 0, .int .i64 0, .int .u32 0, .int .u32 0, .int .u32 0, .int .i64 0, .int .u32 0, .int .u32 0, .int .u8 0, .int .u8 0, .int .u8 0, .int .u8 0, .int .u8 0, .int .u8 0, .int .i64 0, .int .u32 0, .int .u32 0, .int .i64 0, .int .u32 0, .int .u32 0, .int .u32 0, .int .i64 0, .nilFunc, .nilFunc, .nilFunc, .nilFunc, .nilFunc, .nilFunc, .nilFunc, .nilFunc, .nilFunc, .nilFunc, .nilFunc, .nilFunc] 82) = W2 := ⟨_, rfl⟩
  obtain ⟨m, hm⟩ : ∃ m, W1.heap.size = m := ⟨_, rfl⟩
  have OM : Hid (Ob W2 m 82 ((Mc.new a0 a1 a2 a3 a4 a5).cs (nilV ++ nilV))) := hid (by rw [← hW2, ← hm]; exact Ob.new _ _ _)
  have HQ : Hid (Only [] w W2) := hid (o1.trans (by rw [← hW2]; exact (Only.refl [] W1).alloc _))
  have HW : Hid (w.heap.size ≤ m) := hid (by rw [← hm]; exact o1.size)
  have k0 := e0.cell 0; have k1 := e0.cell 1; have k2 := e0.cell 2; have k3 := e0.cell 3; have k4 := e0.cell 4; have k5 := e0.cell 5
  clear o1 e0
  go_enter Try.func15, Try.ntmps15
  go_wp2_with (first | (refine wp_put rfl _ _ _ rfl m 43 rfl (.agg (hearV m).toArray) rfl OM.out (by kernel_rfl) (Nat.le_of_ble_eq_true rfl) (one_h m) (p_h OM.out (hearV m) rfl) ?_) | fail)
  intro W9 hb9 o9
  try simp only [Act.put, List.setIfInBounds_toArray, List.set_cons_zero, List.set_cons_succ]
  have OM := hid hb9; have HQ := hid (HQ.out.fresh o9 (fun i hi => .inr (by rw [List.mem_singleton.1 hi]; exact HW.out)))
  clear hb9 o9
  go_wp2_with (first | (refine wp_put rfl _ _ _ rfl m 49 rfl (.agg (tickV m).toArray) rfl OM.out (by kernel_rfl) (Nat.le_of_ble_eq_true rfl) (one_t m) (p_t OM.out (tickV m) rfl rfl) ?_) | fail)
  intro W9 hb9 o9
  try simp only [Act.put, List.setIfInBounds_toArray, List.set_cons_zero, List.set_cons_succ]
  have OM := hid hb9; have HQ := hid (HQ.out.fresh o9 (fun i hi => .inr (by rw [List.mem_singleton.1 hi]; exact HW.out)))
  clear hb9 o9
  clear k0 k1 k2 k3 k4 k5 hW1 hW2 hm
  go_wp2_with fail
  go_ret
  have q := (Only.refl [] W9).alloc (.cells #[.pointer (some ⟨m, 0, none⟩)] 84)
  exact ⟨W9.heap.size, m, rfl, ⟨Ob.new _ _ _, OM.out.only q (by simp)⟩, HQ.out.size, HW.out, HQ.out.trans q⟩
theorem ci_step {w w' : World} {g m : Nat} {s s' : Mc} {L : List Lm} {x : Ending} (h : CI w g m s) (k : StepE m 82 (hearV m ++ tickV m) s' L w x w') : CI w' g m s' := by
  obtain ⟨A, n, c, -, -, -, -, hO, o⟩ := k
  exact ⟨h.cl.only o (by simpa using h.ne), hO⟩
def Mc.start (s : Mc) (now draw : Int) : Mc × List Lm := if s.st = 0 then (s.begin now draw, [(s.begin now draw).sent 1 0 0]) else (s, [])
def Mc.free (s : Mc) : Mc × List Lm := ({s with st := 0, of := Lm.zero, le := Lm.zero}, if 3 ≤ s.st then [s.sent 7 s.le.yo s.le.sv] else [])
set_option maxRecDepth 100000 in
set_option maxHeartbeats 8000000 in
theorem start1 (w : World) (g m : Nat) (s : Mc) (now draw : Int) (h : CI w g m s) (hn : Tk now) :
    Calls Try.prog 17 #[.pointer (some ⟨g, 0, none⟩), .int .i64 now, .int .i64 draw] w (StepE m 82 (hearV m ++ tickV m) (s.start now draw).1 (s.start now draw).2 w) := by
  have OC := hid h.cl; have OM := hid h.ob; have HNE := hid h.ne; have QM := hid (Only.refl [m] w)
  have HNow := hid hn
  have c0 := OC.out.cell 0; have k6 := k_st OM.out
  clear h hn
  by_cases h0 : s.st = 0
  · have e1 : (s.st != 0) = false := by simp [h0]
    have HG : Hid (s.start now draw = (s.begin now draw, [(s.begin now draw).sent 1 0 0])) := hid (if_pos h0)
    rw [HG.out]
    clear h0
    go_enter Try.func17, Try.ntmps17
    go_wp2_with fail
    refine (none1 _ g m OC.out).mono ?_
    rintro x w1 ⟨rfl, rfl⟩
    go_wp2_with fail
    refine (begin1 _ m _ _ s now draw OM.out HNow.out).mono ?_
    rintro x w3 ⟨A, n, c, rfl, hl, hr, hf, hO3, o3⟩
    have HL := hid hl; have HR := hid hr; have HF := hid hf; have OM := hid hO3; have HZ := hid QM.out.size; have QM := hid (QM.out.trans o3)
    clear hl hr hf hO3 o3
    clear c0 k6 e1
    go_wp2_with fail
    go_ret
    exact ⟨A, n, c, rfl, HL.out, HR.out, fun b off e => Nat.le_trans HZ.out (HF.out b off e), OM.out, QM.out⟩
  · have e1 : (s.st != 0) = true := by simp [h0]
    have HG : Hid (s.start now draw = (s, [])) := hid (if_neg h0)
    rw [HG.out]
    clear h0
    go_enter Try.func17, Try.ntmps17
    go_wp2_with fail
    refine (none1 _ g m OC.out).mono ?_
    rintro x w1 ⟨rfl, rfl⟩
    go_wp2_with fail
    go_ret
    exact step_none OM.out QM.out
theorem state1 (w : World) (g m : Nat) (s : Mc) (h : CI w g m s) :
    Calls Try.prog 27 #[.pointer (some ⟨g, 0, none⟩)] w (fun x w' => x = .returned (.int .i64 s.st) ∧ w = w') := by
  have OC := hid h.cl; have OM := hid h.ob; have HNE := hid h.ne; have QM := hid (Only.refl [m] w)
  have c0 := OC.out.cell 0; have k6 := k_st OM.out
  clear h
  go_enter Try.func27, Try.ntmps27
  go_wp2_with fail
  refine (none1 _ g m OC.out).mono ?_
  rintro x w1 ⟨rfl, rfl⟩
  go_wp2_with fail
  go_ret
  exact ⟨rfl, rfl⟩
/-- What it has. -/
def Mc.had (s : Mc) : Lm := if 3 ≤ s.st then s.le else Lm.zero
set_option maxRecDepth 100000 in
set_option maxHeartbeats 8000000 in
theorem hasC1 (w : World) (g m : Nat) (s : Mc) (h : CI w g m s) :
    Calls Try.prog 25 #[.pointer (some ⟨g, 0, none⟩)] w (fun x w' => x = .returned (.tuple #[.agg s.had.cs, .bool (decide (3 ≤ s.st))]) ∧ Only [] w w') := by
  have OC := hid h.cl; have OM := hid h.ob; have HNE := hid h.ne; have QM := hid (Only.refl [m] w)
  obtain ⟨W1, hW1⟩ : ∃ W1, w.alloc (.cells #[.int .i64 0, .int .u32 0, .int .u32 0, .int .u8 0, .int .u8 0, .int .u8 0, .int .u8 0, .int .u8 0, .int .u8 0, .int .i64 0, .int .u32 0, .int .u32 0, .int .i64 0, .int .u32 0, .int .u32 0, .int .u32 0] 27) = W1 := ⟨_, rfl⟩
  have OR : Hid (Ob W1 w.heap.size 27 Lm.zero.cs) := hid (by rw [← hW1]; exact Ob.new _ _ _)
  have o1 : Only [] w W1 := by rw [← hW1]; exact (Only.refl [] w).alloc _
  have OC := hid (OC.out.only o1 (by simp)); have OM := hid (OM.out.only o1 (by simp)); have Q1 := hid o1
  have c0 := OC.out.cell 0
  clear h o1
  by_cases hs : 3 ≤ s.st
  · have HH : Hid (s.had = s.le) := hid (if_pos hs)
    have HD : Hid (decide (3 ≤ s.st) = true) := hid (by simpa using hs)
    rw [HH.out, HD.out]
    clear hs
    go_enter Try.func25, Try.ntmps25
    go_wp2_with fail
    refine (none1 _ g m OC.out).mono ?_
    rintro x w1 ⟨rfl, rfl⟩
    go_wp2_with fail
    refine (has1 _ m _ _ s _ OM.out HD.out).mono ?_
    rintro x w1 ⟨rfl, rfl⟩
    go_wp2_with (first | (refine wp_lm rfl 27 _ rfl m 26 rfl s.le (r_le OM.out) Try.underlying27 rfl (by kernel_rfl) ?_; try simp only [Act.put, List.setIfInBounds_toArray, List.set_cons_zero, List.set_cons_succ]) | (refine wp_put rfl _ _ _ rfl w.heap.size 0 rfl (.agg s.le.cs) rfl OR.out (by kernel_rfl) (show _ ≤ 16 from Nat.le_of_ble_eq_true rfl) (one_l _) (p_all OR.out s.le) ?_) | fail)
    intro W9 hb9 o9
    try simp only [Act.put, List.setIfInBounds_toArray, List.set_cons_zero, List.set_cons_succ]
    have OR := hid hb9; have Q1 := hid (Q1.out.fresh o9 (fun i hi => .inr (by rw [List.mem_singleton.1 hi]; exact Nat.le_refl _)))
    clear hb9 o9 c0
    go_wp2_with fail
    have r0 := l_op OR.out; have r1 := l_id OR.out; have r2 := l_yo OR.out; have r3 := l_c0 OR.out; have r4 := l_c1 OR.out; have r5 := l_c2 OR.out; have r6 := l_c3 OR.out; have r7 := l_c4 OR.out; have r8 := l_c5 OR.out; have r9 := l_ty OR.out; have r10 := l_sv OR.out; have r11 := l_ak OR.out; have r12 := l_ti OR.out; have r13 := l_ma OR.out; have r14 := l_ro OR.out; have r15 := l_re OR.out
    refine bodyPost_ret (v := .tuple #[.agg s.le.cs, .bool true]) (by simp [results, Try.results25, go_sem, *, Lm.cs, Lm.enc]) rfl ?_
    exact ⟨rfl, Q1.out⟩
  · have HH : Hid (s.had = Lm.zero) := hid (if_neg hs)
    have HD : Hid (decide (3 ≤ s.st) = false) := hid (by simpa using hs)
    rw [HH.out, HD.out]
    clear hs
    go_enter Try.func25, Try.ntmps25
    go_wp2_with fail
    refine (none1 _ g m OC.out).mono ?_
    rintro x w1 ⟨rfl, rfl⟩
    go_wp2_with fail
    refine (has1 _ m _ _ s _ OM.out HD.out).mono ?_
    rintro x w1 ⟨rfl, rfl⟩
    go_wp2_with (first | (refine wp_put rfl _ _ _ rfl w.heap.size 0 rfl (.agg Lm.zero.cs) rfl OR.out (by kernel_rfl) (show _ ≤ 16 from Nat.le_of_ble_eq_true rfl) (one_l _) (p_all OR.out Lm.zero) ?_) | fail)
    intro W9 hb9 o9
    try simp only [Act.put, List.setIfInBounds_toArray, List.set_cons_zero, List.set_cons_succ]
    have OR := hid hb9; have Q1 := hid (Q1.out.fresh o9 (fun i hi => .inr (by rw [List.mem_singleton.1 hi]; exact Nat.le_refl _)))
    clear hb9 o9 c0
    go_wp2_with fail
    have r0 := l_op OR.out; have r1 := l_id OR.out; have r2 := l_yo OR.out; have r3 := l_c0 OR.out; have r4 := l_c1 OR.out; have r5 := l_c2 OR.out; have r6 := l_c3 OR.out; have r7 := l_c4 OR.out; have r8 := l_c5 OR.out; have r9 := l_ty OR.out; have r10 := l_sv OR.out; have r11 := l_ak OR.out; have r12 := l_ti OR.out; have r13 := l_ma OR.out; have r14 := l_ro OR.out; have r15 := l_re OR.out
    refine bodyPost_ret (v := .tuple #[.agg Lm.zero.cs, .bool false]) (by simp [results, Try.results25, go_sem, *, Lm.cs, Lm.enc]) rfl ?_
    exact ⟨rfl, Q1.out⟩
end Go.Proofs.Ytdpmjghdmpaehaa.lp
/-
  Chapter 23 (lease): the program's client: Release and Hear, by a walk of each text. Conditions: none but those typed.
-/
namespace Go.Proofs.Ytdpmjghdmpaehaa.lp
set_option linter.unusedVariables false
set_option linter.unusedSimpArgs false
open Go.ChangeShapes Go.WideShapes Go.ChangeAt Go.RowKit Go.IntWalk Go.Lib
theorem k_h {w : World} {m k : Nat} {T : TypeId} {s : Mc} (h : Ob w m T (s.cs (hearV m ++ tickV m))) (hk : k < 6) : w.cell? ⟨m, 43 + k, none⟩ = (hearV m)[k]? := by
  have h1 := Ob.rangeMid (pre := s.pre ++ s.of.enc ++ s.le.enc ++ [.int .i64 s.be]) (mid := hearV m) (post := tickV m) 43 (by simpa [Mc.cs] using h) rfl
  have hl : (hearV m).length = 6 := rfl
  rw [List.getElem?_eq_getElem (by omega)]
  exact h1 k _ (List.getElem?_eq_getElem (by omega))
theorem k_t {w : World} {m k : Nat} {T : TypeId} {s : Mc} (h : Ob w m T (s.cs (hearV m ++ tickV m))) (hk : k < 6) : w.cell? ⟨m, 49 + k, none⟩ = (tickV m)[k]? := by
  have h1 := Ob.rangeMid (pre := s.pre ++ s.of.enc ++ s.le.enc ++ [.int .i64 s.be] ++ hearV m) (mid := tickV m) (post := []) 49 (by simpa [Mc.cs] using h) rfl
  have hl : (tickV m).length = 6 := rfl
  rw [List.getElem?_eq_getElem (by omega)]
  exact h1 k _ (List.getElem?_eq_getElem (by omega))
def macEq (l : Lm) (s : Mc) : Bool := decide (l.c0 = s.c0 ∧ l.c1 = s.c1 ∧ l.c2 = s.c2 ∧ l.c3 = s.c3 ∧ l.c4 = s.c4 ∧ l.c5 = s.c5)
set_option maxRecDepth 100000 in
set_option maxHeartbeats 8000000 in
theorem release1 (w : World) (g m : Nat) (s : Mc) (h : CI w g m s) :
    Calls Try.prog 23 #[.pointer (some ⟨g, 0, none⟩)] w (StepE m 82 (hearV m ++ tickV m) s.free.1 s.free.2 w) := by
  have OC := hid h.cl; have OM := hid h.ob; have HNE := hid h.ne; have QM := hid (Only.refl [m] w)
  have HGM : Hid (g ∉ [m]) := hid (by simpa using h.ne)
  have HML := hid OM.out.lt
  have c0 := OC.out.cell 0
  clear h
  by_cases hs : 3 ≤ s.st
  · have HD : Hid (decide (3 ≤ s.st) = true) := hid (by simpa using hs)
    have HG : Hid (s.free = ({s with st := 0, of := Lm.zero, le := Lm.zero}, [s.sent 7 s.le.yo s.le.sv])) := hid (by unfold Mc.free; rw [if_pos hs])
    rw [HG.out]
    clear hs
    go_enter Try.func23, Try.ntmps23
    go_wp2_with fail
    refine (none1 _ g m OC.out).mono ?_
    rintro x w1 ⟨rfl, rfl⟩
    go_wp2_with fail
    refine (has1 _ m _ _ s _ OM.out HD.out).mono ?_
    rintro x w1 ⟨rfl, rfl⟩
    go_wp2_with fail
    refine wp_region_noPanic ?_
    refine rgn.regionT (R := Only []) (by kernel_rfl) (Only.refl []) (fun _ _ _ => Only.trans) (fun _ _ _ _ _ h => h) (.y 0 (.y 1 (.y 2 (.y 3 (.y 4 (.y 5 (.y 6 (.y 7 (.y 8 (.y 9 (.y 10 (.y 11 (.y 12 (.y 13 (.y 14 (.y 15 (.y 16 (.y 17 (.y 18 (.y 19 (.y 20 (.e 21 (.e 22 .z))))))))))))))))))))))) (by kernel_rfl) (fun W hWd => ?_)
    have HWd := hid hWd; clear hWd
    have HZ0 := hid (Nat.le_refl w.heap.size)
    have q8 : Only [] w W := Only.eq_drew (Only.refl [] _) HWd.out
    have OM := hid (OM.out.only q8 (by simp)); have OC := hid (OC.out.only q8 (by simp)); have QM := hid (QM.out.trans (q8.more (by simp)))
    clear q8 HWd c0
    refine rgn.Walk.ys (v := ?_) rfl rfl rfl ?_ ?_
    rotate_left 1
    · intro W' hW'
      go_simp
      try with_reducible rfl
    try simp only [Act.put, List.setIfInBounds_toArray, List.set_cons_zero, List.set_cons_succ]
    refine rgn.Walk.ys (v := ?_) rfl rfl rfl ?_ ?_
    rotate_left 1
    · intro W' hW'
      go_simp
      try with_reducible rfl
    try simp only [Act.put, List.setIfInBounds_toArray, List.set_cons_zero, List.set_cons_succ]
    refine rgn.Walk.ys (v := ?_) rfl rfl rfl ?_ ?_
    rotate_left 1
    · intro W' hW'
      go_simp
      try with_reducible rfl
    try simp only [Act.put, List.setIfInBounds_toArray, List.set_cons_zero, List.set_cons_succ]
    refine rgn.Walk.ys (v := ?_) rfl rfl rfl ?_ ?_
    rotate_left 1
    · intro W' hW'
      have q0 := (OC.out.only hW' (by simp)).cell 0
      go_simp
      try with_reducible rfl
    try simp only [Act.put, List.setIfInBounds_toArray, List.set_cons_zero, List.set_cons_succ]
    refine rgn.Walk.ys (v := ?_) rfl rfl rfl ?_ ?_
    rotate_left 1
    · intro W' hW'
      go_simp
      try with_reducible rfl
    try simp only [Act.put, List.setIfInBounds_toArray, List.set_cons_zero, List.set_cons_succ]
    refine rgn.Walk.ys (v := ?_) rfl rfl rfl ?_ ?_
    rotate_left 1
    · intro W' hW'
      go_simp
      try with_reducible rfl
    try simp only [Act.put, List.setIfInBounds_toArray, List.set_cons_zero, List.set_cons_succ]
    refine rgn.Walk.ys (v := ?_) rfl rfl rfl ?_ ?_
    rotate_left 1
    · intro W' hW'
      go_simp
      try with_reducible rfl
    try simp only [Act.put, List.setIfInBounds_toArray, List.set_cons_zero, List.set_cons_succ]
    refine rgn.Walk.ys (v := ?_) rfl rfl rfl ?_ ?_
    rotate_left 1
    · intro W' hW'
      have q0 := (OC.out.only hW' (by simp)).cell 0
      go_simp
      try with_reducible rfl
    try simp only [Act.put, List.setIfInBounds_toArray, List.set_cons_zero, List.set_cons_succ]
    refine rgn.Walk.ys (v := ?_) rfl rfl rfl ?_ ?_
    rotate_left 1
    · intro W' hW'
      go_simp
      try with_reducible rfl
    try simp only [Act.put, List.setIfInBounds_toArray, List.set_cons_zero, List.set_cons_succ]
    refine rgn.Walk.ys (v := ?_) rfl rfl rfl ?_ ?_
    rotate_left 1
    · intro W' hW'
      go_simp
      try with_reducible rfl
    try simp only [Act.put, List.setIfInBounds_toArray, List.set_cons_zero, List.set_cons_succ]
    refine rgn.Walk.ys (v := ?_) rfl rfl rfl ?_ ?_
    rotate_left 1
    · intro W' hW'
      go_simp
      try with_reducible rfl
    try simp only [Act.put, List.setIfInBounds_toArray, List.set_cons_zero, List.set_cons_succ]
    refine rgn.Walk.ys (v := ?_) rfl rfl rfl ?_ ?_
    rotate_left 1
    · intro W' hW'
      have q0 := k_le_yo (OM.out.only hW' (by simp))
      go_simp
      try with_reducible rfl
    try simp only [Act.put, List.setIfInBounds_toArray, List.set_cons_zero, List.set_cons_succ]
    refine rgn.Walk.ys (v := ?_) rfl rfl rfl ?_ ?_
    rotate_left 1
    · intro W' hW'
      go_simp
      try with_reducible rfl
    try simp only [Act.put, List.setIfInBounds_toArray, List.set_cons_zero, List.set_cons_succ]
    refine rgn.Walk.ys (v := ?_) rfl rfl rfl ?_ ?_
    rotate_left 1
    · intro W' hW'
      go_simp
      try with_reducible rfl
    try simp only [Act.put, List.setIfInBounds_toArray, List.set_cons_zero, List.set_cons_succ]
    refine rgn.Walk.ys (v := ?_) rfl rfl rfl ?_ ?_
    rotate_left 1
    · intro W' hW'
      go_simp
      try with_reducible rfl
    try simp only [Act.put, List.setIfInBounds_toArray, List.set_cons_zero, List.set_cons_succ]
    refine rgn.Walk.ys (v := ?_) rfl rfl rfl ?_ ?_
    rotate_left 1
    · intro W' hW'
      have q0 := (OC.out.only hW' (by simp)).cell 0
      go_simp
      try with_reducible rfl
    try simp only [Act.put, List.setIfInBounds_toArray, List.set_cons_zero, List.set_cons_succ]
    refine rgn.Walk.ys (v := ?_) rfl rfl rfl ?_ ?_
    rotate_left 1
    · intro W' hW'
      go_simp
      try with_reducible rfl
    try simp only [Act.put, List.setIfInBounds_toArray, List.set_cons_zero, List.set_cons_succ]
    refine rgn.Walk.ys (v := ?_) rfl rfl rfl ?_ ?_
    rotate_left 1
    · intro W' hW'
      go_simp
      try with_reducible rfl
    try simp only [Act.put, List.setIfInBounds_toArray, List.set_cons_zero, List.set_cons_succ]
    refine rgn.Walk.ys (v := ?_) rfl rfl rfl ?_ ?_
    rotate_left 1
    · intro W' hW'
      go_simp
      try with_reducible rfl
    try simp only [Act.put, List.setIfInBounds_toArray, List.set_cons_zero, List.set_cons_succ]
    refine rgn.Walk.ys (v := ?_) rfl rfl rfl ?_ ?_
    rotate_left 1
    · intro W' hW'
      have q0 := k_le_sv (OM.out.only hW' (by simp))
      go_simp
      try with_reducible rfl
    try simp only [Act.put, List.setIfInBounds_toArray, List.set_cons_zero, List.set_cons_succ]
    refine rgn.Walk.ys (v := ?_) rfl rfl rfl ?_ ?_
    rotate_left 1
    · intro W' hW'
      go_simp
      try with_reducible rfl
    try simp only [Act.put, List.setIfInBounds_toArray, List.set_cons_zero, List.set_cons_succ]
    refine rgn.Walk.es ?_
    refine rgn.stepE rfl rfl (fun K hK => ?_)
    go_simp
    refine (message1 _ m _ _ s 7 s.le.yo s.le.sv OM.out).mono ?_
    rintro x w3 ⟨A, n, c, rfl, hl, hr, hf, o3⟩
    refine hK _ _ o3 ?_
    clear hK K
    try simp only [Act.put, List.setIfInBounds_toArray, List.set_cons_zero, List.set_cons_succ]
    have HL := hid hl; have HR := hid hr; have HF := hid hf; have OM := hid (OM.out.only o3 (by simp)); have OC := hid (OC.out.only o3 (by simp)); have HZ := hid QM.out.size; have QM := hid (QM.out.trans (o3.more (by simp)))
    clear hl hr hf o3
    refine rgn.Walk.es ?_
    refine rgn.stepE rfl rfl (fun K hK => ?_)
    go_simp
    refine hK _ _ ((Only.refl []) _) ?_
    clear hK K
    try simp only [Act.put, List.setIfInBounds_toArray, List.set_cons_zero, List.set_cons_succ]
    refine rgn.Walk.zs (NoPanic.normal ?_)
    go_wp2_with fail
    have HF : Hid (∀ b off, A = some ⟨b, off, none⟩ → w.heap.size ≤ b) := hid (fun b off e => Nat.le_trans HZ.out (HF.out b off e))
    refine wp_region_noPanic ?_
    refine rgn.regionT (R := Only [m]) (by kernel_rfl) (Only.refl [m]) (fun _ _ _ => Only.trans) (fun _ _ _ _ _ h => h) (.y 0 (.y 1 (.y 2 (.y 3 (.y 4 (.y 5 (.y 6 (.y 7 (.y 8 (.y 9 (.y 10 (.y 11 (.y 12 (.y 13 (.y 14 (.y 15 (.e 16 (.y 17 (.y 18 (.e 19 (.y 20 (.y 21 (.e 22 .z))))))))))))))))))))))) (by kernel_rfl) (fun W hWd => ?_)
    have HWd := hid hWd; clear hWd
    have q8 : Only [] w3 W := Only.eq_drew (Only.refl [] _) HWd.out
    have OM := hid (OM.out.only q8 (by simp)); have OC := hid (OC.out.only q8 (by simp)); have QM := hid (QM.out.trans (q8.more (by simp)))
    have QS := hid (q8.more (by simp) : Only [m] w3 W)
    clear q8 HWd
    refine rgn.Walk.ys (v := ?_) rfl rfl rfl ?_ ?_
    rotate_left 1
    · intro W' hW'
      go_simp
      try with_reducible rfl
    try simp only [Act.put, List.setIfInBounds_toArray, List.set_cons_zero, List.set_cons_succ]
    refine rgn.Walk.ys (v := ?_) rfl rfl rfl ?_ ?_
    rotate_left 1
    · intro W' hW'
      go_simp
      try with_reducible rfl
    try simp only [Act.put, List.setIfInBounds_toArray, List.set_cons_zero, List.set_cons_succ]
    refine rgn.Walk.ys (v := ?_) rfl rfl rfl ?_ ?_
    rotate_left 1
    · intro W' hW'
      go_simp
      try with_reducible rfl
    try simp only [Act.put, List.setIfInBounds_toArray, List.set_cons_zero, List.set_cons_succ]
    refine rgn.Walk.ys (v := ?_) rfl rfl rfl ?_ ?_
    rotate_left 1
    · intro W' hW'
      have q0 := (OC.out.only hW' HGM.out).cell 0
      go_simp
      try with_reducible rfl
    try simp only [Act.put, List.setIfInBounds_toArray, List.set_cons_zero, List.set_cons_succ]
    refine rgn.Walk.ys (v := ?_) rfl rfl rfl ?_ ?_
    rotate_left 1
    · intro W' hW'
      go_simp
      try with_reducible rfl
    try simp only [Act.put, List.setIfInBounds_toArray, List.set_cons_zero, List.set_cons_succ]
    refine rgn.Walk.ys (v := ?_) rfl rfl rfl ?_ ?_
    rotate_left 1
    · intro W' hW'
      go_simp
      try with_reducible rfl
    try simp only [Act.put, List.setIfInBounds_toArray, List.set_cons_zero, List.set_cons_succ]
    refine rgn.Walk.ys (v := ?_) rfl rfl rfl ?_ ?_
    rotate_left 1
    · intro W' hW'
      go_simp
      try with_reducible rfl
    try simp only [Act.put, List.setIfInBounds_toArray, List.set_cons_zero, List.set_cons_succ]
    refine rgn.Walk.ys (v := ?_) rfl rfl rfl ?_ ?_
    rotate_left 1
    · intro W' hW'
      have q0 := (OC.out.only hW' HGM.out).cell 0
      go_simp
      try with_reducible rfl
    try simp only [Act.put, List.setIfInBounds_toArray, List.set_cons_zero, List.set_cons_succ]
    refine rgn.Walk.ys (v := ?_) rfl rfl rfl ?_ ?_
    rotate_left 1
    · intro W' hW'
      go_simp
      try with_reducible rfl
    try simp only [Act.put, List.setIfInBounds_toArray, List.set_cons_zero, List.set_cons_succ]
    refine rgn.Walk.ys (v := ?_) rfl rfl rfl ?_ ?_
    rotate_left 1
    · intro W' hW'
      go_simp
      try with_reducible rfl
    try simp only [Act.put, List.setIfInBounds_toArray, List.set_cons_zero, List.set_cons_succ]
    refine rgn.Walk.ys (v := ?_) rfl rfl rfl ?_ ?_
    rotate_left 1
    · intro W' hW'
      go_simp
      try with_reducible rfl
    try simp only [Act.put, List.setIfInBounds_toArray, List.set_cons_zero, List.set_cons_succ]
    refine rgn.Walk.ys (v := ?_) rfl rfl rfl ?_ ?_
    rotate_left 1
    · intro W' hW'
      have q0 := (OC.out.only hW' HGM.out).cell 0
      go_simp
      try with_reducible rfl
    try simp only [Act.put, List.setIfInBounds_toArray, List.set_cons_zero, List.set_cons_succ]
    refine rgn.Walk.ys (v := ?_) rfl rfl rfl ?_ ?_
    rotate_left 1
    · intro W' hW'
      go_simp
      try with_reducible rfl
    try simp only [Act.put, List.setIfInBounds_toArray, List.set_cons_zero, List.set_cons_succ]
    refine rgn.Walk.ys (v := ?_) rfl rfl rfl ?_ ?_
    rotate_left 1
    · intro W' hW'
      go_simp
      try with_reducible rfl
    try simp only [Act.put, List.setIfInBounds_toArray, List.set_cons_zero, List.set_cons_succ]
    refine rgn.Walk.ys (v := ?_) rfl rfl rfl ?_ ?_
    rotate_left 1
    · intro W' hW'
      go_simp
      try with_reducible rfl
    try simp only [Act.put, List.setIfInBounds_toArray, List.set_cons_zero, List.set_cons_succ]
    refine rgn.Walk.ys (v := ?_) rfl rfl rfl ?_ ?_
    rotate_left 1
    · intro W' hW'
      go_simp
      try with_reducible rfl
    try simp only [Act.put, List.setIfInBounds_toArray, List.set_cons_zero, List.set_cons_succ]
    refine rgn.Walk.es ?_
    refine rgn.stepE rfl rfl (fun K hK => ?_)
    refine op_put _ _ _ rfl m 6 rfl (.int .i64 0) rfl OM.out (by kernel_rfl) (Nat.le_trans (show _ ≤ 43 from Nat.le_of_ble_eq_true rfl) (mcs_size _ _)) (one_i _ _) (p_st OM.out 0) (fun W9 hb9 o9 => ?_)
    refine hK _ _ o9 ?_
    clear hK K
    try simp only [Act.put, List.setIfInBounds_toArray, List.set_cons_zero, List.set_cons_succ]
    have OM := hid hb9; have QM := hid (QM.out.trans o9)
    have OC := hid (OC.out.only o9 HGM.out); have QS := hid (QS.out.trans o9)
    clear hb9 o9
    refine rgn.Walk.ys (v := ?_) rfl rfl rfl ?_ ?_
    rotate_left 1
    · intro W' hW'
      go_simp
      try with_reducible rfl
    try simp only [Act.put, List.setIfInBounds_toArray, List.set_cons_zero, List.set_cons_succ]
    refine rgn.Walk.ys (v := ?_) rfl rfl rfl ?_ ?_
    rotate_left 1
    · intro W' hW'
      go_simp
      try with_reducible rfl
    try simp only [Act.put, List.setIfInBounds_toArray, List.set_cons_zero, List.set_cons_succ]
    refine rgn.Walk.es ?_
    refine rgn.stepE rfl rfl (fun K hK => ?_)
    refine op_put _ _ _ rfl m 10 rfl (.agg Lm.zero.cs) rfl OM.out (by kernel_rfl) (Nat.le_trans (show _ ≤ 43 from Nat.le_of_ble_eq_true rfl) (mcs_size _ _)) (one_l _) (p_of OM.out Lm.zero) (fun W9 hb9 o9 => ?_)
    refine hK _ _ o9 ?_
    clear hK K
    try simp only [Act.put, List.setIfInBounds_toArray, List.set_cons_zero, List.set_cons_succ]
    have OM := hid hb9; have QM := hid (QM.out.trans o9)
    have OC := hid (OC.out.only o9 HGM.out); have QS := hid (QS.out.trans o9)
    clear hb9 o9
    refine rgn.Walk.ys (v := ?_) rfl rfl rfl ?_ ?_
    rotate_left 1
    · intro W' hW'
      go_simp
      try with_reducible rfl
    try simp only [Act.put, List.setIfInBounds_toArray, List.set_cons_zero, List.set_cons_succ]
    refine rgn.Walk.ys (v := ?_) rfl rfl rfl ?_ ?_
    rotate_left 1
    · intro W' hW'
      go_simp
      try with_reducible rfl
    try simp only [Act.put, List.setIfInBounds_toArray, List.set_cons_zero, List.set_cons_succ]
    refine rgn.Walk.es ?_
    refine rgn.stepE rfl rfl (fun K hK => ?_)
    refine op_put _ _ _ rfl m 26 rfl (.agg Lm.zero.cs) rfl OM.out (by kernel_rfl) (Nat.le_trans (show _ ≤ 43 from Nat.le_of_ble_eq_true rfl) (mcs_size _ _)) (one_l _) (p_le OM.out Lm.zero) (fun W9 hb9 o9 => ?_)
    refine hK _ _ o9 ?_
    clear hK K
    try simp only [Act.put, List.setIfInBounds_toArray, List.set_cons_zero, List.set_cons_succ]
    have OM := hid hb9; have QM := hid (QM.out.trans o9)
    have OC := hid (OC.out.only o9 HGM.out); have QS := hid (QS.out.trans o9)
    clear hb9 o9
    refine rgn.Walk.zs (NoPanic.normal ?_)
    have HR := hid (HR.out.only QS.out (fun b off e _ hm => by have h8 := HF.out b off e; have h9 := HML.out; rw [List.mem_singleton.1 hm] at h8; omega))
    go_wp2_with fail
    go_ret
    exact ⟨A, n, c, rfl, HL.out, HR.out, HF.out, OM.out, QM.out⟩
  · have HD : Hid (decide (3 ≤ s.st) = false) := hid (by simpa using hs)
    have HG : Hid (s.free = ({s with st := 0, of := Lm.zero, le := Lm.zero}, [])) := hid (by unfold Mc.free; rw [if_neg hs])
    rw [HG.out]
    clear hs
    go_enter Try.func23, Try.ntmps23
    go_wp2_with fail
    refine (none1 _ g m OC.out).mono ?_
    rintro x w1 ⟨rfl, rfl⟩
    go_wp2_with fail
    refine (has1 _ m _ _ s _ OM.out HD.out).mono ?_
    rintro x w1 ⟨rfl, rfl⟩
    go_wp2_with fail
    clear c0
    refine wp_region_noPanic ?_
    refine rgn.regionT (R := Only [m]) (by kernel_rfl) (Only.refl [m]) (fun _ _ _ => Only.trans) (fun _ _ _ _ _ h => h) (.y 0 (.y 1 (.y 2 (.y 3 (.y 4 (.y 5 (.y 6 (.y 7 (.y 8 (.y 9 (.y 10 (.y 11 (.y 12 (.y 13 (.y 14 (.y 15 (.e 16 (.y 17 (.y 18 (.e 19 (.y 20 (.y 21 (.e 22 .z))))))))))))))))))))))) (by kernel_rfl) (fun W hWd => ?_)
    have HWd := hid hWd; clear hWd
    have q8 : Only [] w W := Only.eq_drew (Only.refl [] _) HWd.out
    have OM := hid (OM.out.only q8 (by simp)); have OC := hid (OC.out.only q8 (by simp)); have QM := hid (QM.out.trans (q8.more (by simp)))
    have QS := hid (q8.more (by simp) : Only [m] w W)
    clear q8 HWd
    refine rgn.Walk.ys (v := ?_) rfl rfl rfl ?_ ?_
    rotate_left 1
    · intro W' hW'
      go_simp
      try with_reducible rfl
    try simp only [Act.put, List.setIfInBounds_toArray, List.set_cons_zero, List.set_cons_succ]
    refine rgn.Walk.ys (v := ?_) rfl rfl rfl ?_ ?_
    rotate_left 1
    · intro W' hW'
      go_simp
      try with_reducible rfl
    try simp only [Act.put, List.setIfInBounds_toArray, List.set_cons_zero, List.set_cons_succ]
    refine rgn.Walk.ys (v := ?_) rfl rfl rfl ?_ ?_
    rotate_left 1
    · intro W' hW'
      go_simp
      try with_reducible rfl
    try simp only [Act.put, List.setIfInBounds_toArray, List.set_cons_zero, List.set_cons_succ]
    refine rgn.Walk.ys (v := ?_) rfl rfl rfl ?_ ?_
    rotate_left 1
    · intro W' hW'
      have q0 := (OC.out.only hW' HGM.out).cell 0
      go_simp
      try with_reducible rfl
    try simp only [Act.put, List.setIfInBounds_toArray, List.set_cons_zero, List.set_cons_succ]
    refine rgn.Walk.ys (v := ?_) rfl rfl rfl ?_ ?_
    rotate_left 1
    · intro W' hW'
      go_simp
      try with_reducible rfl
    try simp only [Act.put, List.setIfInBounds_toArray, List.set_cons_zero, List.set_cons_succ]
    refine rgn.Walk.ys (v := ?_) rfl rfl rfl ?_ ?_
    rotate_left 1
    · intro W' hW'
      go_simp
      try with_reducible rfl
    try simp only [Act.put, List.setIfInBounds_toArray, List.set_cons_zero, List.set_cons_succ]
    refine rgn.Walk.ys (v := ?_) rfl rfl rfl ?_ ?_
    rotate_left 1
    · intro W' hW'
      go_simp
      try with_reducible rfl
    try simp only [Act.put, List.setIfInBounds_toArray, List.set_cons_zero, List.set_cons_succ]
    refine rgn.Walk.ys (v := ?_) rfl rfl rfl ?_ ?_
    rotate_left 1
    · intro W' hW'
      have q0 := (OC.out.only hW' HGM.out).cell 0
      go_simp
      try with_reducible rfl
    try simp only [Act.put, List.setIfInBounds_toArray, List.set_cons_zero, List.set_cons_succ]
    refine rgn.Walk.ys (v := ?_) rfl rfl rfl ?_ ?_
    rotate_left 1
    · intro W' hW'
      go_simp
      try with_reducible rfl
    try simp only [Act.put, List.setIfInBounds_toArray, List.set_cons_zero, List.set_cons_succ]
    refine rgn.Walk.ys (v := ?_) rfl rfl rfl ?_ ?_
    rotate_left 1
    · intro W' hW'
      go_simp
      try with_reducible rfl
    try simp only [Act.put, List.setIfInBounds_toArray, List.set_cons_zero, List.set_cons_succ]
    refine rgn.Walk.ys (v := ?_) rfl rfl rfl ?_ ?_
    rotate_left 1
    · intro W' hW'
      go_simp
      try with_reducible rfl
    try simp only [Act.put, List.setIfInBounds_toArray, List.set_cons_zero, List.set_cons_succ]
    refine rgn.Walk.ys (v := ?_) rfl rfl rfl ?_ ?_
    rotate_left 1
    · intro W' hW'
      have q0 := (OC.out.only hW' HGM.out).cell 0
      go_simp
      try with_reducible rfl
    try simp only [Act.put, List.setIfInBounds_toArray, List.set_cons_zero, List.set_cons_succ]
    refine rgn.Walk.ys (v := ?_) rfl rfl rfl ?_ ?_
    rotate_left 1
    · intro W' hW'
      go_simp
      try with_reducible rfl
    try simp only [Act.put, List.setIfInBounds_toArray, List.set_cons_zero, List.set_cons_succ]
    refine rgn.Walk.ys (v := ?_) rfl rfl rfl ?_ ?_
    rotate_left 1
    · intro W' hW'
      go_simp
      try with_reducible rfl
    try simp only [Act.put, List.setIfInBounds_toArray, List.set_cons_zero, List.set_cons_succ]
    refine rgn.Walk.ys (v := ?_) rfl rfl rfl ?_ ?_
    rotate_left 1
    · intro W' hW'
      go_simp
      try with_reducible rfl
    try simp only [Act.put, List.setIfInBounds_toArray, List.set_cons_zero, List.set_cons_succ]
    refine rgn.Walk.ys (v := ?_) rfl rfl rfl ?_ ?_
    rotate_left 1
    · intro W' hW'
      go_simp
      try with_reducible rfl
    try simp only [Act.put, List.setIfInBounds_toArray, List.set_cons_zero, List.set_cons_succ]
    refine rgn.Walk.es ?_
    refine rgn.stepE rfl rfl (fun K hK => ?_)
    refine op_put _ _ _ rfl m 6 rfl (.int .i64 0) rfl OM.out (by kernel_rfl) (Nat.le_trans (show _ ≤ 43 from Nat.le_of_ble_eq_true rfl) (mcs_size _ _)) (one_i _ _) (p_st OM.out 0) (fun W9 hb9 o9 => ?_)
    refine hK _ _ o9 ?_
    clear hK K
    try simp only [Act.put, List.setIfInBounds_toArray, List.set_cons_zero, List.set_cons_succ]
    have OM := hid hb9; have QM := hid (QM.out.trans o9)
    have OC := hid (OC.out.only o9 HGM.out); have QS := hid (QS.out.trans o9)
    clear hb9 o9
    refine rgn.Walk.ys (v := ?_) rfl rfl rfl ?_ ?_
    rotate_left 1
    · intro W' hW'
      go_simp
      try with_reducible rfl
    try simp only [Act.put, List.setIfInBounds_toArray, List.set_cons_zero, List.set_cons_succ]
    refine rgn.Walk.ys (v := ?_) rfl rfl rfl ?_ ?_
    rotate_left 1
    · intro W' hW'
      go_simp
      try with_reducible rfl
    try simp only [Act.put, List.setIfInBounds_toArray, List.set_cons_zero, List.set_cons_succ]
    refine rgn.Walk.es ?_
    refine rgn.stepE rfl rfl (fun K hK => ?_)
    refine op_put _ _ _ rfl m 10 rfl (.agg Lm.zero.cs) rfl OM.out (by kernel_rfl) (Nat.le_trans (show _ ≤ 43 from Nat.le_of_ble_eq_true rfl) (mcs_size _ _)) (one_l _) (p_of OM.out Lm.zero) (fun W9 hb9 o9 => ?_)
    refine hK _ _ o9 ?_
    clear hK K
    try simp only [Act.put, List.setIfInBounds_toArray, List.set_cons_zero, List.set_cons_succ]
    have OM := hid hb9; have QM := hid (QM.out.trans o9)
    have OC := hid (OC.out.only o9 HGM.out); have QS := hid (QS.out.trans o9)
    clear hb9 o9
    refine rgn.Walk.ys (v := ?_) rfl rfl rfl ?_ ?_
    rotate_left 1
    · intro W' hW'
      go_simp
      try with_reducible rfl
    try simp only [Act.put, List.setIfInBounds_toArray, List.set_cons_zero, List.set_cons_succ]
    refine rgn.Walk.ys (v := ?_) rfl rfl rfl ?_ ?_
    rotate_left 1
    · intro W' hW'
      go_simp
      try with_reducible rfl
    try simp only [Act.put, List.setIfInBounds_toArray, List.set_cons_zero, List.set_cons_succ]
    refine rgn.Walk.es ?_
    refine rgn.stepE rfl rfl (fun K hK => ?_)
    refine op_put _ _ _ rfl m 26 rfl (.agg Lm.zero.cs) rfl OM.out (by kernel_rfl) (Nat.le_trans (show _ ≤ 43 from Nat.le_of_ble_eq_true rfl) (mcs_size _ _)) (one_l _) (p_le OM.out Lm.zero) (fun W9 hb9 o9 => ?_)
    refine hK _ _ o9 ?_
    clear hK K
    try simp only [Act.put, List.setIfInBounds_toArray, List.set_cons_zero, List.set_cons_succ]
    have OM := hid hb9; have QM := hid (QM.out.trans o9)
    have OC := hid (OC.out.only o9 HGM.out); have QS := hid (QS.out.trans o9)
    clear hb9 o9
    refine rgn.Walk.zs (NoPanic.normal ?_)
    go_wp2_with fail
    go_ret
    exact step_none OM.out QM.out
set_option maxRecDepth 100000 in
set_option maxHeartbeats 8000000 in
theorem hearNo (w : World) (g m : Nat) (s : Mc) (l : Lm) (now draw : Int) (h : CI w g m s) (hn : Tk now) (hno : ¬ (l.op = 2 ∧ l.id = s.id ∧ macEq l s = true)) :
    Calls Try.prog 19 #[.pointer (some ⟨g, 0, none⟩), .agg l.cs, .int .i64 now, .int .i64 draw] w (StepE m 82 (hearV m ++ tickV m) s [] w) := by
  have OC := hid h.cl; have OM := hid h.ob; have HNE := hid h.ne; have QM := hid (Only.refl [m] w)
  have HGM : Hid (g ∉ [m]) := hid (by simpa using h.ne)
  obtain ⟨b, hb⟩ : ∃ b, w.heap.size = b := ⟨_, rfl⟩
  obtain ⟨W1, hW1⟩ : ∃ W1, w.alloc (.cells l.cs 27) = W1 := ⟨_, rfl⟩
  have OB : Hid (Ob W1 b 27 l.cs) := hid (by rw [← hW1, ← hb]; exact Ob.new _ _ _)
  have o1 : Only [] w W1 := by rw [← hW1]; exact (Only.refl [] w).alloc _
  have HBM : Hid (b ∉ [m]) := hid (by have := OM.out.lt; simp; omega)
  have OC := hid (OC.out.only o1 (by simp)); have OM := hid (OM.out.only o1 (by simp)); have QM := hid (QM.out.trans (o1.more (by simp)))
  have HNow := hid hn
  clear h o1 hn
  by_cases h1 : l.op = 2
  · have e1 : (l.op != 2) = false := by simp [h1]
    by_cases h2 : l.id = s.id
    · have e2 : (l.id != s.id) = false := by simp [h2]
      have HMQ : Hid (decide (l.c0 = s.c0 ∧ l.c1 = s.c1 ∧ l.c2 = s.c2 ∧ l.c3 = s.c3 ∧ l.c4 = s.c4 ∧ l.c5 = s.c5) = false) := hid (by
        cases hq : macEq l s with
        | false => exact hq
        | true => exact absurd ⟨h1, h2, hq⟩ hno)
      clear h1 h2 hno
      go_enter Try.func19, Try.ntmps19
      go_wp2_with fail
      refine wp_region_noPanic ?_
      refine rgn.regionT (R := Only []) (by kernel_rfl) (Only.refl []) (fun _ _ _ => Only.trans) (fun _ _ _ _ _ h => h) (.y 0 (.e 1 (.y 2 (.y 3 (.y 4 (.y 5 (.y 6 (.y 7 (.y 8 (.y 9 (.y 10 (.y 11 (.y 12 (.y 13 (.y 14 (.y 15 (.y 16 (.y 17 (.y 18 (.y 19 (.y 20 (.y 21 (.y 22 (.y 23 (.y 24 (.y 25 (.y 26 (.y 27 (.y 28 (.y 29 (.y 30 .z))))))))))))))))))))))))))))))) (by kernel_rfl) (fun W hWd => ?_)
      have HWd := hid hWd; clear hWd
      have q8 : Only [] W1 W := Only.eq_drew (Only.refl [] _) HWd.out
      have OM := hid (OM.out.only q8 (by simp)); have OC := hid (OC.out.only q8 (by simp)); have QM := hid (QM.out.trans (q8.more (by simp)))
      have OB := hid (OB.out.only q8 (by simp))
      clear q8 HWd
      refine rgn.Walk.ys (v := ?_) rfl rfl rfl ?_ ?_
      rotate_left 1
      · intro W' hW'
        go_simp
        try with_reducible rfl
      try simp only [Act.put, List.setIfInBounds_toArray, List.set_cons_zero, List.set_cons_succ]
      refine rgn.Walk.es ?_
      refine rgn.stepE rfl rfl (fun K hK => ?_)
      go_simp
      refine (none1 _ g m OC.out).mono ?_
      rintro x w4 ⟨rfl, rfl⟩
      refine hK _ _ (Only.refl _ _) ?_
      clear hK K
      try simp only [Act.put, List.setIfInBounds_toArray, List.set_cons_zero, List.set_cons_succ]
      refine rgn.Walk.ys (v := ?_) rfl rfl rfl ?_ ?_
      rotate_left 1
      · intro W' hW'
        go_simp
        try with_reducible rfl
      try simp only [Act.put, List.setIfInBounds_toArray, List.set_cons_zero, List.set_cons_succ]
      refine rgn.Walk.ys (v := ?_) rfl rfl rfl ?_ ?_
      rotate_left 1
      · intro W' hW'
        go_simp
        try with_reducible rfl
      try simp only [Act.put, List.setIfInBounds_toArray, List.set_cons_zero, List.set_cons_succ]
      refine rgn.Walk.ys (v := ?_) rfl rfl rfl ?_ ?_
      rotate_left 1
      · intro W' hW'
        have q0 := l_op (OB.out.only hW' (by simp))
        go_simp
        try with_reducible rfl
      try simp only [Act.put, List.setIfInBounds_toArray, List.set_cons_zero, List.set_cons_succ]
      refine rgn.Walk.ys (v := ?_) rfl rfl rfl ?_ ?_
      rotate_left 1
      · intro W' hW'
        go_simp
        try with_reducible rfl
      try simp only [Act.put, List.setIfInBounds_toArray, List.set_cons_zero, List.set_cons_succ]
      refine rgn.Walk.ys (v := ?_) rfl rfl rfl ?_ ?_
      rotate_left 1
      · intro W' hW'
        go_simp
        try with_reducible rfl
      try simp only [Act.put, List.setIfInBounds_toArray, List.set_cons_zero, List.set_cons_succ]
      refine rgn.Walk.ys (v := ?_) rfl rfl rfl ?_ ?_
      rotate_left 1
      · intro W' hW'
        go_simp
        try with_reducible rfl
      try simp only [Act.put, List.setIfInBounds_toArray, List.set_cons_zero, List.set_cons_succ]
      refine rgn.Walk.ys (v := ?_) rfl rfl rfl ?_ ?_
      rotate_left 1
      · intro W' hW'
        go_simp
        try with_reducible rfl
      try simp only [Act.put, List.setIfInBounds_toArray, List.set_cons_zero, List.set_cons_succ]
      refine rgn.Walk.ys (v := ?_) rfl rfl rfl ?_ ?_
      rotate_left 1
      · intro W' hW'
        have q0 := l_id (OB.out.only hW' (by simp))
        go_simp
        try with_reducible rfl
      try simp only [Act.put, List.setIfInBounds_toArray, List.set_cons_zero, List.set_cons_succ]
      refine rgn.Walk.ys (v := ?_) rfl rfl rfl ?_ ?_
      rotate_left 1
      · intro W' hW'
        go_simp
        try with_reducible rfl
      try simp only [Act.put, List.setIfInBounds_toArray, List.set_cons_zero, List.set_cons_succ]
      refine rgn.Walk.ys (v := ?_) rfl rfl rfl ?_ ?_
      rotate_left 1
      · intro W' hW'
        go_simp
        try with_reducible rfl
      try simp only [Act.put, List.setIfInBounds_toArray, List.set_cons_zero, List.set_cons_succ]
      refine rgn.Walk.ys (v := ?_) rfl rfl rfl ?_ ?_
      rotate_left 1
      · intro W' hW'
        go_simp
        try with_reducible rfl
      try simp only [Act.put, List.setIfInBounds_toArray, List.set_cons_zero, List.set_cons_succ]
      refine rgn.Walk.ys (v := ?_) rfl rfl rfl ?_ ?_
      rotate_left 1
      · intro W' hW'
        have q0 := (OC.out.only hW' (by simp)).cell 0
        go_simp
        try with_reducible rfl
      try simp only [Act.put, List.setIfInBounds_toArray, List.set_cons_zero, List.set_cons_succ]
      refine rgn.Walk.ys (v := ?_) rfl rfl rfl ?_ ?_
      rotate_left 1
      · intro W' hW'
        go_simp
        try with_reducible rfl
      try simp only [Act.put, List.setIfInBounds_toArray, List.set_cons_zero, List.set_cons_succ]
      refine rgn.Walk.ys (v := ?_) rfl rfl rfl ?_ ?_
      rotate_left 1
      · intro W' hW'
        go_simp
        try with_reducible rfl
      try simp only [Act.put, List.setIfInBounds_toArray, List.set_cons_zero, List.set_cons_succ]
      refine rgn.Walk.ys (v := ?_) rfl rfl rfl ?_ ?_
      rotate_left 1
      · intro W' hW'
        have q0 := k_id (OM.out.only hW' (by simp))
        go_simp
        try with_reducible rfl
      try simp only [Act.put, List.setIfInBounds_toArray, List.set_cons_zero, List.set_cons_succ]
      refine rgn.Walk.ys (v := ?_) rfl rfl rfl ?_ ?_
      rotate_left 1
      · intro W' hW'
        go_simp
        try with_reducible rfl
      try simp only [Act.put, List.setIfInBounds_toArray, List.set_cons_zero, List.set_cons_succ]
      refine rgn.Walk.ys (v := ?_) rfl rfl rfl ?_ ?_
      rotate_left 1
      · intro W' hW'
        go_simp
        try with_reducible rfl
      try simp only [Act.put, List.setIfInBounds_toArray, List.set_cons_zero, List.set_cons_succ]
      refine rgn.Walk.ys (v := ?_) rfl rfl rfl ?_ ?_
      rotate_left 1
      · intro W' hW'
        go_simp
        try with_reducible rfl
      try simp only [Act.put, List.setIfInBounds_toArray, List.set_cons_zero, List.set_cons_succ]
      refine rgn.Walk.ys (v := ?_) rfl rfl rfl ?_ ?_
      rotate_left 1
      · intro W' hW'
        go_simp
        try with_reducible rfl
      try simp only [Act.put, List.setIfInBounds_toArray, List.set_cons_zero, List.set_cons_succ]
      refine rgn.Walk.ys rfl rfl rfl (fun W' hW' => exec_mac _ _ rfl b 3 rfl _ _ _ _ _ _ (r_lmac (OB.out.only hW' (by simp))) Try.underlying25 rfl (by kernel_rfl)) ?_
      try simp only [Act.put, List.setIfInBounds_toArray, List.set_cons_zero, List.set_cons_succ]
      refine rgn.Walk.ys (v := ?_) rfl rfl rfl ?_ ?_
      rotate_left 1
      · intro W' hW'
        go_simp
        try with_reducible rfl
      try simp only [Act.put, List.setIfInBounds_toArray, List.set_cons_zero, List.set_cons_succ]
      refine rgn.Walk.ys (v := ?_) rfl rfl rfl ?_ ?_
      rotate_left 1
      · intro W' hW'
        go_simp
        try with_reducible rfl
      try simp only [Act.put, List.setIfInBounds_toArray, List.set_cons_zero, List.set_cons_succ]
      refine rgn.Walk.ys (v := ?_) rfl rfl rfl ?_ ?_
      rotate_left 1
      · intro W' hW'
        go_simp
        try with_reducible rfl
      try simp only [Act.put, List.setIfInBounds_toArray, List.set_cons_zero, List.set_cons_succ]
      refine rgn.Walk.ys (v := ?_) rfl rfl rfl ?_ ?_
      rotate_left 1
      · intro W' hW'
        have q0 := (OC.out.only hW' (by simp)).cell 0
        go_simp
        try with_reducible rfl
      try simp only [Act.put, List.setIfInBounds_toArray, List.set_cons_zero, List.set_cons_succ]
      refine rgn.Walk.ys (v := ?_) rfl rfl rfl ?_ ?_
      rotate_left 1
      · intro W' hW'
        go_simp
        try with_reducible rfl
      try simp only [Act.put, List.setIfInBounds_toArray, List.set_cons_zero, List.set_cons_succ]
      refine rgn.Walk.ys (v := ?_) rfl rfl rfl ?_ ?_
      rotate_left 1
      · intro W' hW'
        go_simp
        try with_reducible rfl
      try simp only [Act.put, List.setIfInBounds_toArray, List.set_cons_zero, List.set_cons_succ]
      refine rgn.Walk.ys rfl rfl rfl (fun W' hW' => exec_mac _ _ rfl m 0 rfl _ _ _ _ _ _ (r_mac (OM.out.only hW' (by simp))) Try.underlying25 rfl (by kernel_rfl)) ?_
      try simp only [Act.put, List.setIfInBounds_toArray, List.set_cons_zero, List.set_cons_succ]
      refine rgn.Walk.ys (v := ?_) rfl rfl rfl ?_ ?_
      rotate_left 1
      · intro W' hW'
        have q7 := ev.eqMacD 9998 l.c0 l.c1 l.c2 l.c3 l.c4 l.c5 s.c0 s.c1 s.c2 s.c3 s.c4 s.c5 W'
        rw [HMQ.out] at q7
        go_simp
        try with_reducible rfl
      try simp only [Act.put, List.setIfInBounds_toArray, List.set_cons_zero, List.set_cons_succ]
      refine rgn.Walk.ys (v := ?_) rfl rfl rfl ?_ ?_
      rotate_left 1
      · intro W' hW'
        go_simp
        try with_reducible rfl
      try simp only [Act.put, List.setIfInBounds_toArray, List.set_cons_zero, List.set_cons_succ]
      refine rgn.Walk.zs (NoPanic.normal ?_)
      go_wp2_with fail
      go_ret
      exact step_none OM.out QM.out
    · have e2 : (l.id != s.id) = true := by simp [h2]
      clear h1 h2 hno
      go_enter Try.func19, Try.ntmps19
      go_wp2_with fail
      refine wp_region_noPanic ?_
      refine rgn.regionT (R := Only []) (by kernel_rfl) (Only.refl []) (fun _ _ _ => Only.trans) (fun _ _ _ _ _ h => h) (.y 0 (.e 1 (.y 2 (.y 3 (.y 4 (.y 5 (.y 6 (.y 7 (.y 8 (.y 9 (.y 10 (.y 11 (.y 12 (.y 13 (.y 14 (.y 15 (.y 16 (.y 17 (.y 18 (.y 19 (.y 20 (.y 21 (.y 22 (.y 23 (.y 24 (.y 25 (.y 26 (.y 27 (.y 28 (.y 29 (.y 30 .z))))))))))))))))))))))))))))))) (by kernel_rfl) (fun W hWd => ?_)
      have HWd := hid hWd; clear hWd
      have q8 : Only [] W1 W := Only.eq_drew (Only.refl [] _) HWd.out
      have OM := hid (OM.out.only q8 (by simp)); have OC := hid (OC.out.only q8 (by simp)); have QM := hid (QM.out.trans (q8.more (by simp)))
      have OB := hid (OB.out.only q8 (by simp))
      clear q8 HWd
      refine rgn.Walk.ys (v := ?_) rfl rfl rfl ?_ ?_
      rotate_left 1
      · intro W' hW'
        go_simp
        try with_reducible rfl
      try simp only [Act.put, List.setIfInBounds_toArray, List.set_cons_zero, List.set_cons_succ]
      refine rgn.Walk.es ?_
      refine rgn.stepE rfl rfl (fun K hK => ?_)
      go_simp
      refine (none1 _ g m OC.out).mono ?_
      rintro x w4 ⟨rfl, rfl⟩
      refine hK _ _ (Only.refl _ _) ?_
      clear hK K
      try simp only [Act.put, List.setIfInBounds_toArray, List.set_cons_zero, List.set_cons_succ]
      refine rgn.Walk.ys (v := ?_) rfl rfl rfl ?_ ?_
      rotate_left 1
      · intro W' hW'
        go_simp
        try with_reducible rfl
      try simp only [Act.put, List.setIfInBounds_toArray, List.set_cons_zero, List.set_cons_succ]
      refine rgn.Walk.ys (v := ?_) rfl rfl rfl ?_ ?_
      rotate_left 1
      · intro W' hW'
        go_simp
        try with_reducible rfl
      try simp only [Act.put, List.setIfInBounds_toArray, List.set_cons_zero, List.set_cons_succ]
      refine rgn.Walk.ys (v := ?_) rfl rfl rfl ?_ ?_
      rotate_left 1
      · intro W' hW'
        have q0 := l_op (OB.out.only hW' (by simp))
        go_simp
        try with_reducible rfl
      try simp only [Act.put, List.setIfInBounds_toArray, List.set_cons_zero, List.set_cons_succ]
      refine rgn.Walk.ys (v := ?_) rfl rfl rfl ?_ ?_
      rotate_left 1
      · intro W' hW'
        go_simp
        try with_reducible rfl
      try simp only [Act.put, List.setIfInBounds_toArray, List.set_cons_zero, List.set_cons_succ]
      refine rgn.Walk.ys (v := ?_) rfl rfl rfl ?_ ?_
      rotate_left 1
      · intro W' hW'
        go_simp
        try with_reducible rfl
      try simp only [Act.put, List.setIfInBounds_toArray, List.set_cons_zero, List.set_cons_succ]
      refine rgn.Walk.ys (v := ?_) rfl rfl rfl ?_ ?_
      rotate_left 1
      · intro W' hW'
        go_simp
        try with_reducible rfl
      try simp only [Act.put, List.setIfInBounds_toArray, List.set_cons_zero, List.set_cons_succ]
      refine rgn.Walk.ys (v := ?_) rfl rfl rfl ?_ ?_
      rotate_left 1
      · intro W' hW'
        go_simp
        try with_reducible rfl
      try simp only [Act.put, List.setIfInBounds_toArray, List.set_cons_zero, List.set_cons_succ]
      refine rgn.Walk.ys (v := ?_) rfl rfl rfl ?_ ?_
      rotate_left 1
      · intro W' hW'
        have q0 := l_id (OB.out.only hW' (by simp))
        go_simp
        try with_reducible rfl
      try simp only [Act.put, List.setIfInBounds_toArray, List.set_cons_zero, List.set_cons_succ]
      refine rgn.Walk.ys (v := ?_) rfl rfl rfl ?_ ?_
      rotate_left 1
      · intro W' hW'
        go_simp
        try with_reducible rfl
      try simp only [Act.put, List.setIfInBounds_toArray, List.set_cons_zero, List.set_cons_succ]
      refine rgn.Walk.ys (v := ?_) rfl rfl rfl ?_ ?_
      rotate_left 1
      · intro W' hW'
        go_simp
        try with_reducible rfl
      try simp only [Act.put, List.setIfInBounds_toArray, List.set_cons_zero, List.set_cons_succ]
      refine rgn.Walk.ys (v := ?_) rfl rfl rfl ?_ ?_
      rotate_left 1
      · intro W' hW'
        go_simp
        try with_reducible rfl
      try simp only [Act.put, List.setIfInBounds_toArray, List.set_cons_zero, List.set_cons_succ]
      refine rgn.Walk.ys (v := ?_) rfl rfl rfl ?_ ?_
      rotate_left 1
      · intro W' hW'
        have q0 := (OC.out.only hW' (by simp)).cell 0
        go_simp
        try with_reducible rfl
      try simp only [Act.put, List.setIfInBounds_toArray, List.set_cons_zero, List.set_cons_succ]
      refine rgn.Walk.ys (v := ?_) rfl rfl rfl ?_ ?_
      rotate_left 1
      · intro W' hW'
        go_simp
        try with_reducible rfl
      try simp only [Act.put, List.setIfInBounds_toArray, List.set_cons_zero, List.set_cons_succ]
      refine rgn.Walk.ys (v := ?_) rfl rfl rfl ?_ ?_
      rotate_left 1
      · intro W' hW'
        go_simp
        try with_reducible rfl
      try simp only [Act.put, List.setIfInBounds_toArray, List.set_cons_zero, List.set_cons_succ]
      refine rgn.Walk.ys (v := ?_) rfl rfl rfl ?_ ?_
      rotate_left 1
      · intro W' hW'
        have q0 := k_id (OM.out.only hW' (by simp))
        go_simp
        try with_reducible rfl
      try simp only [Act.put, List.setIfInBounds_toArray, List.set_cons_zero, List.set_cons_succ]
      refine rgn.Walk.ys (v := ?_) rfl rfl rfl ?_ ?_
      rotate_left 1
      · intro W' hW'
        go_simp
        try with_reducible rfl
      try simp only [Act.put, List.setIfInBounds_toArray, List.set_cons_zero, List.set_cons_succ]
      refine rgn.Walk.ys (v := ?_) rfl rfl rfl ?_ ?_
      rotate_left 1
      · intro W' hW'
        go_simp
        try with_reducible rfl
      try simp only [Act.put, List.setIfInBounds_toArray, List.set_cons_zero, List.set_cons_succ]
      refine rgn.Walk.ys (v := ?_) rfl rfl rfl ?_ ?_
      rotate_left 1
      · intro W' hW'
        go_simp
        try with_reducible rfl
      try simp only [Act.put, List.setIfInBounds_toArray, List.set_cons_zero, List.set_cons_succ]
      refine rgn.Walk.yn rfl rfl rfl ?_
      try simp only [Act.put, List.setIfInBounds_toArray, List.set_cons_zero, List.set_cons_succ]
      refine rgn.Walk.yn rfl rfl rfl ?_
      try simp only [Act.put, List.setIfInBounds_toArray, List.set_cons_zero, List.set_cons_succ]
      refine rgn.Walk.yn rfl rfl rfl ?_
      try simp only [Act.put, List.setIfInBounds_toArray, List.set_cons_zero, List.set_cons_succ]
      refine rgn.Walk.yn rfl rfl rfl ?_
      try simp only [Act.put, List.setIfInBounds_toArray, List.set_cons_zero, List.set_cons_succ]
      refine rgn.Walk.yn rfl rfl rfl ?_
      try simp only [Act.put, List.setIfInBounds_toArray, List.set_cons_zero, List.set_cons_succ]
      refine rgn.Walk.yn rfl rfl rfl ?_
      try simp only [Act.put, List.setIfInBounds_toArray, List.set_cons_zero, List.set_cons_succ]
      refine rgn.Walk.yn rfl rfl rfl ?_
      try simp only [Act.put, List.setIfInBounds_toArray, List.set_cons_zero, List.set_cons_succ]
      refine rgn.Walk.yn rfl rfl rfl ?_
      try simp only [Act.put, List.setIfInBounds_toArray, List.set_cons_zero, List.set_cons_succ]
      refine rgn.Walk.yn rfl rfl rfl ?_
      try simp only [Act.put, List.setIfInBounds_toArray, List.set_cons_zero, List.set_cons_succ]
      refine rgn.Walk.yn rfl rfl rfl ?_
      try simp only [Act.put, List.setIfInBounds_toArray, List.set_cons_zero, List.set_cons_succ]
      refine rgn.Walk.ys (v := ?_) rfl rfl rfl ?_ ?_
      rotate_left 1
      · intro W' hW'
        go_simp
        try with_reducible rfl
      try simp only [Act.put, List.setIfInBounds_toArray, List.set_cons_zero, List.set_cons_succ]
      refine rgn.Walk.zs (NoPanic.normal ?_)
      go_wp2_with fail
      go_ret
      exact step_none OM.out QM.out
  · have e1 : (l.op != 2) = true := by simp [h1]
    clear h1 hno
    go_enter Try.func19, Try.ntmps19
    go_wp2_with fail
    refine wp_region_noPanic ?_
    refine rgn.regionT (R := Only []) (by kernel_rfl) (Only.refl []) (fun _ _ _ => Only.trans) (fun _ _ _ _ _ h => h) (.y 0 (.e 1 (.y 2 (.y 3 (.y 4 (.y 5 (.y 6 (.y 7 (.y 8 (.y 9 (.y 10 (.y 11 (.y 12 (.y 13 (.y 14 (.y 15 (.y 16 (.y 17 (.y 18 (.y 19 (.y 20 (.y 21 (.y 22 (.y 23 (.y 24 (.y 25 (.y 26 (.y 27 (.y 28 (.y 29 (.y 30 .z))))))))))))))))))))))))))))))) (by kernel_rfl) (fun W hWd => ?_)
    have HWd := hid hWd; clear hWd
    have q8 : Only [] W1 W := Only.eq_drew (Only.refl [] _) HWd.out
    have OM := hid (OM.out.only q8 (by simp)); have OC := hid (OC.out.only q8 (by simp)); have QM := hid (QM.out.trans (q8.more (by simp)))
    have OB := hid (OB.out.only q8 (by simp))
    clear q8 HWd
    refine rgn.Walk.ys (v := ?_) rfl rfl rfl ?_ ?_
    rotate_left 1
    · intro W' hW'
      go_simp
      try with_reducible rfl
    try simp only [Act.put, List.setIfInBounds_toArray, List.set_cons_zero, List.set_cons_succ]
    refine rgn.Walk.es ?_
    refine rgn.stepE rfl rfl (fun K hK => ?_)
    go_simp
    refine (none1 _ g m OC.out).mono ?_
    rintro x w4 ⟨rfl, rfl⟩
    refine hK _ _ (Only.refl _ _) ?_
    clear hK K
    try simp only [Act.put, List.setIfInBounds_toArray, List.set_cons_zero, List.set_cons_succ]
    refine rgn.Walk.ys (v := ?_) rfl rfl rfl ?_ ?_
    rotate_left 1
    · intro W' hW'
      go_simp
      try with_reducible rfl
    try simp only [Act.put, List.setIfInBounds_toArray, List.set_cons_zero, List.set_cons_succ]
    refine rgn.Walk.ys (v := ?_) rfl rfl rfl ?_ ?_
    rotate_left 1
    · intro W' hW'
      go_simp
      try with_reducible rfl
    try simp only [Act.put, List.setIfInBounds_toArray, List.set_cons_zero, List.set_cons_succ]
    refine rgn.Walk.ys (v := ?_) rfl rfl rfl ?_ ?_
    rotate_left 1
    · intro W' hW'
      have q0 := l_op (OB.out.only hW' (by simp))
      go_simp
      try with_reducible rfl
    try simp only [Act.put, List.setIfInBounds_toArray, List.set_cons_zero, List.set_cons_succ]
    refine rgn.Walk.ys (v := ?_) rfl rfl rfl ?_ ?_
    rotate_left 1
    · intro W' hW'
      go_simp
      try with_reducible rfl
    try simp only [Act.put, List.setIfInBounds_toArray, List.set_cons_zero, List.set_cons_succ]
    refine rgn.Walk.ys (v := ?_) rfl rfl rfl ?_ ?_
    rotate_left 1
    · intro W' hW'
      go_simp
      try with_reducible rfl
    try simp only [Act.put, List.setIfInBounds_toArray, List.set_cons_zero, List.set_cons_succ]
    refine rgn.Walk.ys (v := ?_) rfl rfl rfl ?_ ?_
    rotate_left 1
    · intro W' hW'
      go_simp
      try with_reducible rfl
    try simp only [Act.put, List.setIfInBounds_toArray, List.set_cons_zero, List.set_cons_succ]
    refine rgn.Walk.yn rfl rfl rfl ?_
    try simp only [Act.put, List.setIfInBounds_toArray, List.set_cons_zero, List.set_cons_succ]
    refine rgn.Walk.yn rfl rfl rfl ?_
    try simp only [Act.put, List.setIfInBounds_toArray, List.set_cons_zero, List.set_cons_succ]
    refine rgn.Walk.yn rfl rfl rfl ?_
    try simp only [Act.put, List.setIfInBounds_toArray, List.set_cons_zero, List.set_cons_succ]
    refine rgn.Walk.yn rfl rfl rfl ?_
    try simp only [Act.put, List.setIfInBounds_toArray, List.set_cons_zero, List.set_cons_succ]
    refine rgn.Walk.yn rfl rfl rfl ?_
    try simp only [Act.put, List.setIfInBounds_toArray, List.set_cons_zero, List.set_cons_succ]
    refine rgn.Walk.yn rfl rfl rfl ?_
    try simp only [Act.put, List.setIfInBounds_toArray, List.set_cons_zero, List.set_cons_succ]
    refine rgn.Walk.yn rfl rfl rfl ?_
    try simp only [Act.put, List.setIfInBounds_toArray, List.set_cons_zero, List.set_cons_succ]
    refine rgn.Walk.yn rfl rfl rfl ?_
    try simp only [Act.put, List.setIfInBounds_toArray, List.set_cons_zero, List.set_cons_succ]
    refine rgn.Walk.yn rfl rfl rfl ?_
    try simp only [Act.put, List.setIfInBounds_toArray, List.set_cons_zero, List.set_cons_succ]
    refine rgn.Walk.yn rfl rfl rfl ?_
    try simp only [Act.put, List.setIfInBounds_toArray, List.set_cons_zero, List.set_cons_succ]
    refine rgn.Walk.ys (v := ?_) rfl rfl rfl ?_ ?_
    rotate_left 1
    · intro W' hW'
      go_simp
      try with_reducible rfl
    try simp only [Act.put, List.setIfInBounds_toArray, List.set_cons_zero, List.set_cons_succ]
    refine rgn.Walk.ys (v := ?_) rfl rfl rfl ?_ ?_
    rotate_left 1
    · intro W' hW'
      go_simp
      try with_reducible rfl
    try simp only [Act.put, List.setIfInBounds_toArray, List.set_cons_zero, List.set_cons_succ]
    refine rgn.Walk.yn rfl rfl rfl ?_
    try simp only [Act.put, List.setIfInBounds_toArray, List.set_cons_zero, List.set_cons_succ]
    refine rgn.Walk.yn rfl rfl rfl ?_
    try simp only [Act.put, List.setIfInBounds_toArray, List.set_cons_zero, List.set_cons_succ]
    refine rgn.Walk.yn rfl rfl rfl ?_
    try simp only [Act.put, List.setIfInBounds_toArray, List.set_cons_zero, List.set_cons_succ]
    refine rgn.Walk.yn rfl rfl rfl ?_
    try simp only [Act.put, List.setIfInBounds_toArray, List.set_cons_zero, List.set_cons_succ]
    refine rgn.Walk.yn rfl rfl rfl ?_
    try simp only [Act.put, List.setIfInBounds_toArray, List.set_cons_zero, List.set_cons_succ]
    refine rgn.Walk.yn rfl rfl rfl ?_
    try simp only [Act.put, List.setIfInBounds_toArray, List.set_cons_zero, List.set_cons_succ]
    refine rgn.Walk.yn rfl rfl rfl ?_
    try simp only [Act.put, List.setIfInBounds_toArray, List.set_cons_zero, List.set_cons_succ]
    refine rgn.Walk.yn rfl rfl rfl ?_
    try simp only [Act.put, List.setIfInBounds_toArray, List.set_cons_zero, List.set_cons_succ]
    refine rgn.Walk.yn rfl rfl rfl ?_
    try simp only [Act.put, List.setIfInBounds_toArray, List.set_cons_zero, List.set_cons_succ]
    refine rgn.Walk.yn rfl rfl rfl ?_
    try simp only [Act.put, List.setIfInBounds_toArray, List.set_cons_zero, List.set_cons_succ]
    refine rgn.Walk.ys (v := ?_) rfl rfl rfl ?_ ?_
    rotate_left 1
    · intro W' hW'
      go_simp
      try with_reducible rfl
    try simp only [Act.put, List.setIfInBounds_toArray, List.set_cons_zero, List.set_cons_succ]
    refine rgn.Walk.zs (NoPanic.normal ?_)
    go_wp2_with fail
    go_ret
    exact step_none OM.out QM.out
set_option maxRecDepth 100000 in
set_option maxHeartbeats 8000000 in
theorem hearT (w : World) (g m : Nat) (s s' : Mc) (L : List Lm) (l : Lm) (now draw : Int) (k F : Nat) (h : CI w g m s) (hn : Tk now) (h1 : l.op = 2) (h2 : l.id = s.id) (h3 : macEq l s = true)
    (hk : s.st = (k : Int)) (hk6 : k < 6) (hF : (hearV m)[k]? = some (.func (Fn.func F) #[.pointer (some ⟨m, 0, none⟩)] #[])) (hE : ∀ args W, (callFunc F args).run Try.prog W = .ok (.enter F args) W) (hC : ∀ W, Ob W m 82 (s.cs (hearV m ++ tickV m)) → Calls Try.prog F #[.pointer (some ⟨m, 0, none⟩), .agg l.cs, .int .i64 now, .int .i64 draw] W (StepE m 82 (hearV m ++ tickV m) s' L W)) :
    Calls Try.prog 19 #[.pointer (some ⟨g, 0, none⟩), .agg l.cs, .int .i64 now, .int .i64 draw] w (StepE m 82 (hearV m ++ tickV m) s' L w) := by
  have OC := hid h.cl; have OM := hid h.ob; have HNE := hid h.ne; have QM := hid (Only.refl [m] w)
  have HGM : Hid (g ∉ [m]) := hid (by simpa using h.ne)
  obtain ⟨b, hb⟩ : ∃ b, w.heap.size = b := ⟨_, rfl⟩
  obtain ⟨W1, hW1⟩ : ∃ W1, w.alloc (.cells l.cs 27) = W1 := ⟨_, rfl⟩
  have OB : Hid (Ob W1 b 27 l.cs) := hid (by rw [← hW1, ← hb]; exact Ob.new _ _ _)
  have o1 : Only [] w W1 := by rw [← hW1]; exact (Only.refl [] w).alloc _
  have HBM : Hid (b ∉ [m]) := hid (by have := OM.out.lt; simp; omega)
  have OC := hid (OC.out.only o1 (by simp)); have OM := hid (OM.out.only o1 (by simp)); have QM := hid (QM.out.trans (o1.more (by simp)))
  have HNow := hid hn
  clear h o1 hn
  have e1 : (l.op != 2) = false := by simp [h1]
  have e2 : (l.id != s.id) = false := by simp [h2]
  have HMQ : Hid (decide (l.c0 = s.c0 ∧ l.c1 = s.c1 ∧ l.c2 = s.c2 ∧ l.c3 = s.c3 ∧ l.c4 = s.c4 ∧ l.c5 = s.c5) = true) := hid h3
  have HK := hid hk; have HK6 := hid hk6; have HF := hid hF; have HC := hid hC; have HE := hid hE
  clear h1 h2 h3 hk hF hC hE
  go_enter Try.func19, Try.ntmps19
  go_wp2_with fail
  refine wp_region_noPanic ?_
  refine rgn.regionT (R := Only []) (by kernel_rfl) (Only.refl []) (fun _ _ _ => Only.trans) (fun _ _ _ _ _ h => h) (.y 0 (.e 1 (.y 2 (.y 3 (.y 4 (.y 5 (.y 6 (.y 7 (.y 8 (.y 9 (.y 10 (.y 11 (.y 12 (.y 13 (.y 14 (.y 15 (.y 16 (.y 17 (.y 18 (.y 19 (.y 20 (.y 21 (.y 22 (.y 23 (.y 24 (.y 25 (.y 26 (.y 27 (.y 28 (.y 29 (.y 30 .z))))))))))))))))))))))))))))))) (by kernel_rfl) (fun W hWd => ?_)
  have HWd := hid hWd; clear hWd
  have q8 : Only [] W1 W := Only.eq_drew (Only.refl [] _) HWd.out
  have OM := hid (OM.out.only q8 (by simp)); have OC := hid (OC.out.only q8 (by simp)); have QM := hid (QM.out.trans (q8.more (by simp)))
  have OB := hid (OB.out.only q8 (by simp))
  clear q8 HWd
  refine rgn.Walk.ys (v := ?_) rfl rfl rfl ?_ ?_
  rotate_left 1
  · intro W' hW'
    go_simp
    try with_reducible rfl
  try simp only [Act.put, List.setIfInBounds_toArray, List.set_cons_zero, List.set_cons_succ]
  refine rgn.Walk.es ?_
  refine rgn.stepE rfl rfl (fun K hK => ?_)
  go_simp
  refine (none1 _ g m OC.out).mono ?_
  rintro x w4 ⟨rfl, rfl⟩
  refine hK _ _ (Only.refl _ _) ?_
  clear hK K
  try simp only [Act.put, List.setIfInBounds_toArray, List.set_cons_zero, List.set_cons_succ]
  refine rgn.Walk.ys (v := ?_) rfl rfl rfl ?_ ?_
  rotate_left 1
  · intro W' hW'
    go_simp
    try with_reducible rfl
  try simp only [Act.put, List.setIfInBounds_toArray, List.set_cons_zero, List.set_cons_succ]
  refine rgn.Walk.ys (v := ?_) rfl rfl rfl ?_ ?_
  rotate_left 1
  · intro W' hW'
    go_simp
    try with_reducible rfl
  try simp only [Act.put, List.setIfInBounds_toArray, List.set_cons_zero, List.set_cons_succ]
  refine rgn.Walk.ys (v := ?_) rfl rfl rfl ?_ ?_
  rotate_left 1
  · intro W' hW'
    have q0 := l_op (OB.out.only hW' (by simp))
    go_simp
    try with_reducible rfl
  try simp only [Act.put, List.setIfInBounds_toArray, List.set_cons_zero, List.set_cons_succ]
  refine rgn.Walk.ys (v := ?_) rfl rfl rfl ?_ ?_
  rotate_left 1
  · intro W' hW'
    go_simp
    try with_reducible rfl
  try simp only [Act.put, List.setIfInBounds_toArray, List.set_cons_zero, List.set_cons_succ]
  refine rgn.Walk.ys (v := ?_) rfl rfl rfl ?_ ?_
  rotate_left 1
  · intro W' hW'
    go_simp
    try with_reducible rfl
  try simp only [Act.put, List.setIfInBounds_toArray, List.set_cons_zero, List.set_cons_succ]
  refine rgn.Walk.ys (v := ?_) rfl rfl rfl ?_ ?_
  rotate_left 1
  · intro W' hW'
    go_simp
    try with_reducible rfl
  try simp only [Act.put, List.setIfInBounds_toArray, List.set_cons_zero, List.set_cons_succ]
  refine rgn.Walk.ys (v := ?_) rfl rfl rfl ?_ ?_
  rotate_left 1
  · intro W' hW'
    go_simp
    try with_reducible rfl
  try simp only [Act.put, List.setIfInBounds_toArray, List.set_cons_zero, List.set_cons_succ]
  refine rgn.Walk.ys (v := ?_) rfl rfl rfl ?_ ?_
  rotate_left 1
  · intro W' hW'
    have q0 := l_id (OB.out.only hW' (by simp))
    go_simp
    try with_reducible rfl
  try simp only [Act.put, List.setIfInBounds_toArray, List.set_cons_zero, List.set_cons_succ]
  refine rgn.Walk.ys (v := ?_) rfl rfl rfl ?_ ?_
  rotate_left 1
  · intro W' hW'
    go_simp
    try with_reducible rfl
  try simp only [Act.put, List.setIfInBounds_toArray, List.set_cons_zero, List.set_cons_succ]
  refine rgn.Walk.ys (v := ?_) rfl rfl rfl ?_ ?_
  rotate_left 1
  · intro W' hW'
    go_simp
    try with_reducible rfl
  try simp only [Act.put, List.setIfInBounds_toArray, List.set_cons_zero, List.set_cons_succ]
  refine rgn.Walk.ys (v := ?_) rfl rfl rfl ?_ ?_
  rotate_left 1
  · intro W' hW'
    go_simp
    try with_reducible rfl
  try simp only [Act.put, List.setIfInBounds_toArray, List.set_cons_zero, List.set_cons_succ]
  refine rgn.Walk.ys (v := ?_) rfl rfl rfl ?_ ?_
  rotate_left 1
  · intro W' hW'
    have q0 := (OC.out.only hW' (by simp)).cell 0
    go_simp
    try with_reducible rfl
  try simp only [Act.put, List.setIfInBounds_toArray, List.set_cons_zero, List.set_cons_succ]
  refine rgn.Walk.ys (v := ?_) rfl rfl rfl ?_ ?_
  rotate_left 1
  · intro W' hW'
    go_simp
    try with_reducible rfl
  try simp only [Act.put, List.setIfInBounds_toArray, List.set_cons_zero, List.set_cons_succ]
  refine rgn.Walk.ys (v := ?_) rfl rfl rfl ?_ ?_
  rotate_left 1
  · intro W' hW'
    go_simp
    try with_reducible rfl
  try simp only [Act.put, List.setIfInBounds_toArray, List.set_cons_zero, List.set_cons_succ]
  refine rgn.Walk.ys (v := ?_) rfl rfl rfl ?_ ?_
  rotate_left 1
  · intro W' hW'
    have q0 := k_id (OM.out.only hW' (by simp))
    go_simp
    try with_reducible rfl
  try simp only [Act.put, List.setIfInBounds_toArray, List.set_cons_zero, List.set_cons_succ]
  refine rgn.Walk.ys (v := ?_) rfl rfl rfl ?_ ?_
  rotate_left 1
  · intro W' hW'
    go_simp
    try with_reducible rfl
  try simp only [Act.put, List.setIfInBounds_toArray, List.set_cons_zero, List.set_cons_succ]
  refine rgn.Walk.ys (v := ?_) rfl rfl rfl ?_ ?_
  rotate_left 1
  · intro W' hW'
    go_simp
    try with_reducible rfl
  try simp only [Act.put, List.setIfInBounds_toArray, List.set_cons_zero, List.set_cons_succ]
  refine rgn.Walk.ys (v := ?_) rfl rfl rfl ?_ ?_
  rotate_left 1
  · intro W' hW'
    go_simp
    try with_reducible rfl
  try simp only [Act.put, List.setIfInBounds_toArray, List.set_cons_zero, List.set_cons_succ]
  refine rgn.Walk.ys (v := ?_) rfl rfl rfl ?_ ?_
  rotate_left 1
  · intro W' hW'
    go_simp
    try with_reducible rfl
  try simp only [Act.put, List.setIfInBounds_toArray, List.set_cons_zero, List.set_cons_succ]
  refine rgn.Walk.ys rfl rfl rfl (fun W' hW' => exec_mac _ _ rfl b 3 rfl _ _ _ _ _ _ (r_lmac (OB.out.only hW' (by simp))) Try.underlying25 rfl (by kernel_rfl)) ?_
  try simp only [Act.put, List.setIfInBounds_toArray, List.set_cons_zero, List.set_cons_succ]
  refine rgn.Walk.ys (v := ?_) rfl rfl rfl ?_ ?_
  rotate_left 1
  · intro W' hW'
    go_simp
    try with_reducible rfl
  try simp only [Act.put, List.setIfInBounds_toArray, List.set_cons_zero, List.set_cons_succ]
  refine rgn.Walk.ys (v := ?_) rfl rfl rfl ?_ ?_
  rotate_left 1
  · intro W' hW'
    go_simp
    try with_reducible rfl
  try simp only [Act.put, List.setIfInBounds_toArray, List.set_cons_zero, List.set_cons_succ]
  refine rgn.Walk.ys (v := ?_) rfl rfl rfl ?_ ?_
  rotate_left 1
  · intro W' hW'
    go_simp
    try with_reducible rfl
  try simp only [Act.put, List.setIfInBounds_toArray, List.set_cons_zero, List.set_cons_succ]
  refine rgn.Walk.ys (v := ?_) rfl rfl rfl ?_ ?_
  rotate_left 1
  · intro W' hW'
    have q0 := (OC.out.only hW' (by simp)).cell 0
    go_simp
    try with_reducible rfl
  try simp only [Act.put, List.setIfInBounds_toArray, List.set_cons_zero, List.set_cons_succ]
  refine rgn.Walk.ys (v := ?_) rfl rfl rfl ?_ ?_
  rotate_left 1
  · intro W' hW'
    go_simp
    try with_reducible rfl
  try simp only [Act.put, List.setIfInBounds_toArray, List.set_cons_zero, List.set_cons_succ]
  refine rgn.Walk.ys (v := ?_) rfl rfl rfl ?_ ?_
  rotate_left 1
  · intro W' hW'
    go_simp
    try with_reducible rfl
  try simp only [Act.put, List.setIfInBounds_toArray, List.set_cons_zero, List.set_cons_succ]
  refine rgn.Walk.ys rfl rfl rfl (fun W' hW' => exec_mac _ _ rfl m 0 rfl _ _ _ _ _ _ (r_mac (OM.out.only hW' (by simp))) Try.underlying25 rfl (by kernel_rfl)) ?_
  try simp only [Act.put, List.setIfInBounds_toArray, List.set_cons_zero, List.set_cons_succ]
  refine rgn.Walk.ys (v := ?_) rfl rfl rfl ?_ ?_
  rotate_left 1
  · intro W' hW'
    have q7 := ev.eqMacD 9998 l.c0 l.c1 l.c2 l.c3 l.c4 l.c5 s.c0 s.c1 s.c2 s.c3 s.c4 s.c5 W'
    rw [HMQ.out] at q7
    go_simp
    try with_reducible rfl
  try simp only [Act.put, List.setIfInBounds_toArray, List.set_cons_zero, List.set_cons_succ]
  refine rgn.Walk.ys (v := ?_) rfl rfl rfl ?_ ?_
  rotate_left 1
  · intro W' hW'
    go_simp
    try with_reducible rfl
  try simp only [Act.put, List.setIfInBounds_toArray, List.set_cons_zero, List.set_cons_succ]
  refine rgn.Walk.zs (NoPanic.normal ?_)
  go_wp2_with fail
  clear e1 e2
  have k60 : (k : Int) < 6 := by omega
  refine wp_region_noPanic ?_
  refine rgn.regionT (R := Only [m]) (by kernel_rfl) (Only.refl [m]) (fun _ _ _ => Only.trans) (fun _ _ _ _ _ h => h) (.y 0 (.y 1 (.y 2 (.y 3 (.y 4 (.y 5 (.y 6 (.y 7 (.y 8 (.y 9 (.y 11 (.y 12 (.y 15 (.y 16 (.y 17 (.e 10 (.y 13 (.e 14 (.e 18 (.e 19 .z)))))))))))))))))))) (by kernel_rfl) (fun WZ hWd => ?_)
  have HWd := hid hWd; clear hWd
  have q8 : Only [] W WZ := Only.eq_drew (Only.refl [] _) HWd.out
  have OM := hid (OM.out.only q8 (by simp)); have OC := hid (OC.out.only q8 (by simp)); have OB := hid (OB.out.only q8 (by simp)); have QM := hid (QM.out.trans (q8.more (by simp)))
  clear q8 HWd
  refine rgn.Walk.ys (v := ?_) rfl rfl rfl ?_ ?_
  rotate_left 1
  · intro W' hW'
    go_simp
    try with_reducible rfl
  try simp only [Act.put, List.setIfInBounds_toArray, List.set_cons_zero, List.set_cons_succ]
  refine rgn.Walk.ys (v := ?_) rfl rfl rfl ?_ ?_
  rotate_left 1
  · intro W' hW'
    go_simp
    try with_reducible rfl
  try simp only [Act.put, List.setIfInBounds_toArray, List.set_cons_zero, List.set_cons_succ]
  refine rgn.Walk.ys (v := ?_) rfl rfl rfl ?_ ?_
  rotate_left 1
  · intro W' hW'
    go_simp
    try with_reducible rfl
  try simp only [Act.put, List.setIfInBounds_toArray, List.set_cons_zero, List.set_cons_succ]
  refine rgn.Walk.ys (v := ?_) rfl rfl rfl ?_ ?_
  rotate_left 1
  · intro W' hW'
    have q0 := (OC.out.only hW' HGM.out).cell 0
    go_simp
    try with_reducible rfl
  try simp only [Act.put, List.setIfInBounds_toArray, List.set_cons_zero, List.set_cons_succ]
  refine rgn.Walk.ys (v := ?_) rfl rfl rfl ?_ ?_
  rotate_left 1
  · intro W' hW'
    go_simp
    try with_reducible rfl
  try simp only [Act.put, List.setIfInBounds_toArray, List.set_cons_zero, List.set_cons_succ]
  refine rgn.Walk.ys (v := ?_) rfl rfl rfl ?_ ?_
  rotate_left 1
  · intro W' hW'
    go_simp
    try with_reducible rfl
  try simp only [Act.put, List.setIfInBounds_toArray, List.set_cons_zero, List.set_cons_succ]
  refine rgn.Walk.ys (v := ?_) rfl rfl rfl ?_ ?_
  rotate_left 1
  · intro W' hW'
    go_simp
    try with_reducible rfl
  try simp only [Act.put, List.setIfInBounds_toArray, List.set_cons_zero, List.set_cons_succ]
  refine rgn.Walk.ys (v := ?_) rfl rfl rfl ?_ ?_
  rotate_left 1
  · intro W' hW'
    have q0 := (OC.out.only hW' HGM.out).cell 0
    go_simp
    try with_reducible rfl
  try simp only [Act.put, List.setIfInBounds_toArray, List.set_cons_zero, List.set_cons_succ]
  refine rgn.Walk.ys (v := ?_) rfl rfl rfl ?_ ?_
  rotate_left 1
  · intro W' hW'
    go_simp
    try with_reducible rfl
  try simp only [Act.put, List.setIfInBounds_toArray, List.set_cons_zero, List.set_cons_succ]
  refine rgn.Walk.ys (v := ?_) rfl rfl rfl ?_ ?_
  rotate_left 1
  · intro W' hW'
    go_simp
    try with_reducible rfl
  try simp only [Act.put, List.setIfInBounds_toArray, List.set_cons_zero, List.set_cons_succ]
  refine rgn.Walk.ys (v := ?_) rfl rfl rfl ?_ ?_
  rotate_left 1
  · intro W' hW'
    go_simp
    try with_reducible rfl
  try simp only [Act.put, List.setIfInBounds_toArray, List.set_cons_zero, List.set_cons_succ]
  refine rgn.Walk.ys (v := ?_) rfl rfl rfl ?_ ?_
  rotate_left 1
  · intro W' hW'
    go_simp
    try with_reducible rfl
  try simp only [Act.put, List.setIfInBounds_toArray, List.set_cons_zero, List.set_cons_succ]
  refine rgn.Walk.ys rfl rfl rfl (fun W' hW' => exec_lm _ _ rfl b 0 rfl l (r_all (OB.out.only hW' HBM.out)) Try.underlying27 rfl (by kernel_rfl)) ?_
  try simp only [Act.put, List.setIfInBounds_toArray, List.set_cons_zero, List.set_cons_succ]
  refine rgn.Walk.ys (v := ?_) rfl rfl rfl ?_ ?_
  rotate_left 1
  · intro W' hW'
    go_simp
    try with_reducible rfl
  try simp only [Act.put, List.setIfInBounds_toArray, List.set_cons_zero, List.set_cons_succ]
  refine rgn.Walk.ys (v := ?_) rfl rfl rfl ?_ ?_
  rotate_left 1
  · intro W' hW'
    go_simp
    try with_reducible rfl
  try simp only [Act.put, List.setIfInBounds_toArray, List.set_cons_zero, List.set_cons_succ]
  refine rgn.Walk.es ?_
  refine rgn.stepE rfl rfl (fun K hK => ?_)
  have qq := k_st OM.out
  rw [HK.out] at qq
  go_simp
  refine hK _ _ (Only.refl _ _) ?_
  clear hK K qq
  try simp only [Act.put, List.setIfInBounds_toArray, List.set_cons_zero, List.set_cons_succ]
  refine rgn.Walk.ys (v := ?_) rfl rfl rfl ?_ ?_
  rotate_left 1
  · intro W' hW'
    go_simp
    try with_reducible rfl
  try simp only [Act.put, List.setIfInBounds_toArray, List.set_cons_zero, List.set_cons_succ]
  refine rgn.Walk.es ?_
  refine rgn.stepE rfl rfl (fun K hK => ?_)
  have qq := (k_h OM.out HK6.out).trans HF.out
  go_simp
  refine hK _ _ (Only.refl _ _) ?_
  clear hK K qq
  try simp only [Act.put, List.setIfInBounds_toArray, List.set_cons_zero, List.set_cons_succ]
  refine rgn.Walk.es ?_
  refine rgn.stepE rfl rfl (fun K hK => ?_)
  have he := HE.out
  go_simp
  clear he
  refine (HC.out _ OM.out).mono ?_
  rintro x w3 ⟨A, n, c, rfl, hl, hr, hf, hO3, o3⟩
  refine hK _ _ o3 ?_
  clear hK K
  try simp only [Act.put, List.setIfInBounds_toArray, List.set_cons_zero, List.set_cons_succ]
  have HL := hid hl; have HR := hid hr; have HFr := hid hf; have OM := hid hO3; have HZ := hid QM.out.size; have QM := hid (QM.out.trans o3)
  clear hl hr hf hO3 o3
  refine rgn.Walk.es ?_
  refine rgn.stepE rfl rfl (fun K hK => ?_)
  go_simp
  refine hK _ _ ((Only.refl [m]) _) ?_
  clear hK K
  try simp only [Act.put, List.setIfInBounds_toArray, List.set_cons_zero, List.set_cons_succ]
  refine rgn.Walk.zs (NoPanic.normal ?_)
  go_wp2_with fail
  go_ret
  exact ⟨A, n, c, rfl, HL.out, HR.out, fun b off e => Nat.le_trans HZ.out (HFr.out b off e), OM.out, QM.out⟩
end Go.Proofs.Ytdpmjghdmpaehaa.lp
