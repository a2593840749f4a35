/-
  Chapter 23 (lease): Decode of what Encode wrote, by a walk of its text. Conditions: none but those typed.
-/
import Derived.Test.YtdpmjghdmpaehaaLsD
import Derived.Test.YtdpmjghdmpaehaaStc
namespace Go.Proofs.Ytdpmjghdmpaehaa.ls
set_option linter.unusedVariables false
set_option linter.unusedSimpArgs false
open Go.ChangeShapes Go.WideShapes Go.ChangeAt Go.RowKit Go.IntWalk Go.Lib
theorem opStoreOb {P : Program} {o : Oper} {a : Act} {w : World} {K : Act → World → Prop} {Q : Exit → Act → World → Prop} (hgd : o.guard = none) (ty : TypeId) (x y : Operand) (ho : o.op = .store ty x y)
    (g : Nat) (vs : Array Value) (hx : a.eval x = .pointer (some ⟨g, 0, none⟩)) (hy : a.eval y = .agg vs) (cs : Array Value) (t : TypeId) (hb : Ob w g t cs)
    (hs : vs.size = cs.size) (hi : (P.info? ty).map (·.size) = some vs.size) (h1 : vs.all (·.oneCell') = true)
    (h : ∀ W, W = w.setCells g 0 vs.toList → K (a.put o.dst undef) W) : Oper.wp P o a w K Q :=
  wp_store_mid ty x y ho g 0 vs hx hy (hb.there hs) hi h1 (h _ rfl)
/-- One copy into a part of an object, in a region. -/
theorem opCopyC {P : Program} {k : IntKind} {w : World} {o : Oper} {a : Act} {K : Act → World → Prop} {Q : Exit → Act → World → Prop} (hgd : o.guard = none) (d s : Operand) (dT sT : TypeId)
    (ho : o.op = .call { callee := .builtin .copy, args := #[d, s], argTypes := #[dT, sT] }) (elem : TypeId) (hu : P.underlying dT = some (.slice elem)) (hsz : (P.info? elem).map (·.size) = some 1)
    (g off dLen dCap : Nat) (b' off' sLen sCap : Nat) (hd : a.eval d = .slice (some ⟨g, off, none⟩) dLen dCap) (hs : a.eval s = .slice (some ⟨b', off', none⟩) sLen sCap)
    (cs : Array Value) (t : TypeId) (hg : Ob w g t cs) (x y : List Int) (hx : Rd k w (some ⟨b', off', none⟩) sLen x) (n : Nat) (hn : n = min sLen dLen) (h0 : 0 < n) (hy : x.take n = y) (hfit : off + n ≤ cs.size) (cs' : Array Value) (he : (cs.toList.take off ++ y.map (Value.int k) ++ cs.toList.drop (off + n)).toArray = cs')
    (h : ∀ w', Ob w' g t cs' → Only [g] w w' → K (a.put o.dst (goInt n)) w') : Oper.wp P o a w K Q := by
  subst hy
  have hxl : (x.take n).length = n := by rw [List.length_take, hx.len]; omega
  obtain ⟨b2, off2, e2, hc⟩ := hx.cells (by omega)
  injection e2 with e2; injection e2 with e2 e3
  subst e2 e3
  have hcs : ((x.take n).map (Value.int k)).length = n := by rw [List.length_map, hxl]
  have hrun := run_copy_row (P := P) w dT sT o.type elem g off dLen dCap ⟨b', off', none⟩ sLen sCap cs t ((x.take n).map (Value.int k)) hu hsz hg (by rw [hcs]; exact hn)
    (fun j v hv => by
      have hj : j < n := by
        have := (List.getElem?_eq_some_iff.1 hv).1
        rwa [hcs] at this
      rw [addr_plus, hc j (by omega)]
      rw [List.getElem?_map, List.getElem?_take, if_pos hj, List.getElem?_eq_getElem (by rw [hx.len]; omega)] at hv
      rw [← hv]
      simp [List.getD_eq_getElem?_getD, hx.len, show j < sLen by omega])
    (by rw [hcs]; exact hfit) (by intro v hv; obtain ⟨y, _, rfl⟩ := List.mem_map.1 hv; rfl)
  unfold Oper.wp
  simp only [execOp, ho, resolve, invoke, builtin, Sem.run_bind, Sem.run_pure, Result.andThen_ok, List.map_toArray, List.map_cons, List.map_nil, hd, hs, hrun, hcs]
  refine h _ (show Ob _ _ _ _ from ?_) ((Only.refl _ _).setRow (.inl (by simp)) _)
  rw [he]
  exact setRow_heap w g _ _ t _ hg
/-- The options of a message. -/
def addO (P : List (Int × Int)) (k v : Int) : List (Int × Int) := P ++ (if v = 0 then [] else [(k, v)])
theorem obs_addO (P : List (Int × Int)) (k v : Int) (hk : k ≠ 53) : obs (addO P k v) = obs P ++ opt k v := by
  unfold addO opt
  rw [obs_app]
  split
  · rfl
  · rw [show obs [(k, v)] = oball k v ++ [] from rfl]
    unfold oball ob
    rw [if_neg hk]
    rfl
theorem sets_addO (s : Ls) (P : List (Int × Int)) (k v : Int) (h : (sets s P).set k 0 = sets s P) : sets s (addO P k v) = (sets s P).set k v := by
  unfold addO
  split
  · rename_i h0
    rw [h0, h, List.append_nil]
  · rw [sets_snoc]
theorem ok_addO {P : List (Int × Int)} {k v : Int} (h : ∀ p ∈ P, OkO p.1 p.2) (hk : OkO k v) : ∀ p ∈ addO P k v, OkO p.1 p.2 := fun p hp => by
  unfold addO at hp
  rcases List.mem_append.1 hp with h1 | h1
  · exact h p h1
  · split at h1
    · cases h1
    · rw [show p = (k, v) from by simpa using h1]; exact hk
def opts (ty sv ak ti mk ro re : Int) : List (Int × Int) := addO (addO (addO (addO (addO (addO [(53, ty)] 54 sv) 50 ak) 51 ti) 1 mk) 3 ro) 6 re
theorem obs_opts (ty sv ak ti mk ro re : Int) : obs (opts ty sv ak ti mk ro re) ++ [255] = [53, 1, ty] ++ (opt 54 sv ++ (opt 50 ak ++ (opt 51 ti ++ (opt 1 mk ++ (opt 3 ro ++ (opt 6 re ++ [255])))))) := by
  unfold opts
  rw [obs_addO _ _ _ (by decide), obs_addO _ _ _ (by decide), obs_addO _ _ _ (by decide), obs_addO _ _ _ (by decide), obs_addO _ _ _ (by decide), obs_addO _ _ _ (by decide)]
  simp only [List.append_assoc]
  rfl
theorem sets_opts (op id yo c0 c1 c2 c3 c4 c5 ty sv ak ti mk ro re : Int) : sets ⟨op, id, yo, c0, c1, c2, c3, c4, c5, 0, 0, 0, 0, 0, 0, 0⟩ (opts ty sv ak ti mk ro re) = ⟨op, id, yo, c0, c1, c2, c3, c4, c5, ty, sv, ak, ti, mk, ro, re⟩ := by
  have e0 : sets ⟨op, id, yo, c0, c1, c2, c3, c4, c5, 0, 0, 0, 0, 0, 0, 0⟩ [(53, ty)] = ⟨op, id, yo, c0, c1, c2, c3, c4, c5, ty, 0, 0, 0, 0, 0, 0⟩ := rfl
  have e1 := sets_addO ⟨op, id, yo, c0, c1, c2, c3, c4, c5, 0, 0, 0, 0, 0, 0, 0⟩ [(53, ty)] 54 sv (by rw [e0]; rfl)
  rw [e0] at e1
  have e2 := sets_addO ⟨op, id, yo, c0, c1, c2, c3, c4, c5, 0, 0, 0, 0, 0, 0, 0⟩ _ 50 ak (by rw [e1]; rfl)
  rw [e1] at e2
  have e3 := sets_addO ⟨op, id, yo, c0, c1, c2, c3, c4, c5, 0, 0, 0, 0, 0, 0, 0⟩ _ 51 ti (by rw [e2]; rfl)
  rw [e2] at e3
  have e4 := sets_addO ⟨op, id, yo, c0, c1, c2, c3, c4, c5, 0, 0, 0, 0, 0, 0, 0⟩ _ 1 mk (by rw [e3]; rfl)
  rw [e3] at e4
  have e5 := sets_addO ⟨op, id, yo, c0, c1, c2, c3, c4, c5, 0, 0, 0, 0, 0, 0, 0⟩ _ 3 ro (by rw [e4]; rfl)
  rw [e4] at e5
  have e6 := sets_addO ⟨op, id, yo, c0, c1, c2, c3, c4, c5, 0, 0, 0, 0, 0, 0, 0⟩ _ 6 re (by rw [e5]; rfl)
  rw [e5] at e6
  exact e6
def U32 (x : Int) : Prop := 0 ≤ x ∧ x ≤ 4294967295
theorem enc_at (op id yo c0 c1 c2 c3 c4 c5 ty sv ak ti mk ro re : Int) : enc op id yo c0 c1 c2 c3 c4 c5 ty sv ak ti mk ro re = head op id yo c0 c1 c2 c3 c4 c5 ++ (obs (opts ty sv ak ti mk ro re) ++ [255]) := by rw [obs_opts]; rfl
set_option maxRecDepth 10000 in
theorem head_parts (op id yo c0 c1 c2 c3 c4 c5 : Int) (r : List Int) : ((head op id yo c0 c1 c2 c3 c4 c5 ++ r).drop 4).take 4 = f4 id ∧ ((head op id yo c0 c1 c2 c3 c4 c5 ++ r).drop 16).take 4 = f4 yo ∧ ((head op id yo c0 c1 c2 c3 c4 c5 ++ r).drop 28).take 6 = [c0, c1, c2, c3, c4, c5] ∧ ((head op id yo c0 c1 c2 c3 c4 c5 ++ r).drop 236).take 4 = [99, 130, 83, 99] ∧ (head op id yo c0 c1 c2 c3 c4 c5 ++ r).drop 240 = r ∧ (head op id yo c0 c1 c2 c3 c4 c5 ++ r).getD 0 0 = op ∧ (head op id yo c0 c1 c2 c3 c4 c5 ++ r).getD 1 0 = 1 ∧ (head op id yo c0 c1 c2 c3 c4 c5 ++ r).getD 2 0 = 6 := by
  refine ⟨rfl, rfl, rfl, rfl, rfl, rfl, rfl, rfl⟩
set_option maxRecDepth 100000 in
set_option maxHeartbeats 16000000 in
theorem dec1 (w : World) (op id yo c0 c1 c2 c3 c4 c5 ty sv ak ti mk ro re : Int) (b off n c : Nat) (hop : op = 1) (hg : Good op ty ti) (ub : U32 id ∧ U32 yo ∧ U32 sv ∧ U32 ak ∧ U32 mk ∧ U32 ro ∧ U32 re) (hr : Rd .u8 w (some ⟨b, off, none⟩) n (enc op id yo c0 c1 c2 c3 c4 c5 ty sv ak ti mk ro re)) (hnc : n ≤ c) (hcm : c ≤ maxLen) (hn : n ≤ 100000) :
    Calls Try.prog 14 #[.slice (some ⟨b, off, none⟩) n c] w fun x w' => x = .returned (.tuple #[.agg #[.int .i64 op, .int .u32 id, .int .u32 yo, .int .u8 c0, .int .u8 c1, .int .u8 c2, .int .u8 c3, .int .u8 c4, .int .u8 c5, .int .i64 ty, .int .u32 sv, .int .u32 ak, .int .i64 ti, .int .u32 mk, .int .u32 ro, .int .u32 re], .int .i64 0]) ∧ Only [] w w' := by
  have hcc : c ≤ 9223372036854775807 := by simp only [maxLen] at hcm; omega
  have HG := hid hg; have HUB := hid ub
  rw [enc_at] at hr
  obtain ⟨p4, p16, p28, p236, p240, g0, g1, g2⟩ := head_parts op id yo c0 c1 c2 c3 c4 c5 (obs (opts ty sv ak ti mk ro re) ++ [255])
  have hlen : n = 240 + (obs (opts ty sv ak ti mk ro re) ++ [255]).length := by rw [← hr.len, List.length_append, head_len]
  have hn3 : 244 ≤ n := by
    have h9 := congrArg List.length (obs_opts ty sv ak ti mk ro re)
    simp only [List.length_append, List.length_cons, List.length_nil] at h9
    rw [List.length_append] at hlen
    simp only [List.length_cons, List.length_nil] at hlen
    omega
  obtain ⟨bq, offq, eq, hbw, hcq⟩ := hr.at_ (by omega)
  injection eq with eq; injection eq with e1 e2
  subst e1 e2
  have q0 := hcq 0 (by omega); rw [g0] at q0; simp only [Nat.add_zero] at q0
  have q1 := hcq 1 (by omega); rw [g1] at q1
  have q2 := hcq 2 (by omega); rw [g2] at q2
  have H4 := hid (hr.drop 4 (by omega)); have H16 := hid (hr.drop 16 (by omega)); have H28 := hid (hr.drop 28 (by omega))
  have H4t := hid p4; have H16t := hid p16; have H28t := hid p28
  have HCk : Hid (Rd .u8 w (some ⟨b, off + 236, none⟩) 4 [99, 130, 83, 99]) := hid (by have h9 := (hr.drop 236 (by omega)).take 4 (by omega); rwa [p236] at h9)
  have H240 : Hid (Rd .u8 w (some ⟨b, off + 240, none⟩) (n - 240) (obs (opts ty sv ak ti mk ro re) ++ [255])) := hid (by have h9 := hr.drop 240 (by omega); rwa [p240] at h9)
  have idb := hid ub.1; have yob := hid ub.2.1
  have HBw := hid hbw
  clear hcq g0 g1 g2 p4 p16 p28 p236 p240 hr hlen ub hg
  have gs236 : ∀ W : World, (Instr.slice 28 (.slice (some ⟨b, off, none⟩) n c) (some (.int .i64 236)) (some (.int .i64 240)) none).run Try.prog W = .ok (.slice (some ⟨b, off + 236, none⟩) 4 (c - 236)) W := fun W => by
    have y2 : (240 : Int) ≤ (c : Int) := by omega
    have y3 : ¬ (c : Int) = 236 := by omega
    have y4 : ¬ c = 236 := by omega
    go_simp
  have gs4 : ∀ W : World, (Instr.slice 28 (.slice (some ⟨b, off, none⟩) n c) (some (.int .i64 4)) none none).run Try.prog W = .ok (.slice (some ⟨b, off + 4, none⟩) (n - 4) (c - 4)) W := fun W => by
    have y1 : (4 : Int) ≤ (n : Int) := by omega
    have y2 : (n : Int) ≤ (c : Int) := by omega
    have y3 : ¬ (c : Int) = 4 := by omega
    have y4 : ¬ c = 4 := by omega
    have y5 : ((n : Int) - 4).toNat = n - 4 := by omega
    have y6 : ((c : Int) - 4).toNat = c - 4 := by omega
    go_simp
  have gs16 : ∀ W : World, (Instr.slice 28 (.slice (some ⟨b, off, none⟩) n c) (some (.int .i64 16)) none none).run Try.prog W = .ok (.slice (some ⟨b, off + 16, none⟩) (n - 16) (c - 16)) W := fun W => by
    have y1 : (16 : Int) ≤ (n : Int) := by omega
    have y2 : (n : Int) ≤ (c : Int) := by omega
    have y3 : ¬ (c : Int) = 16 := by omega
    have y4 : ¬ c = 16 := by omega
    have y5 : ((n : Int) - 16).toNat = n - 16 := by omega
    have y6 : ((c : Int) - 16).toNat = c - 16 := by omega
    go_simp
  have gs28 : ∀ W : World, (Instr.slice 28 (.slice (some ⟨b, off, none⟩) n c) (some (.int .i64 28)) none none).run Try.prog W = .ok (.slice (some ⟨b, off + 28, none⟩) (n - 28) (c - 28)) W := fun W => by
    have y1 : (28 : Int) ≤ (n : Int) := by omega
    have y2 : (n : Int) ≤ (c : Int) := by omega
    have y3 : ¬ (c : Int) = 28 := by omega
    have y4 : ¬ c = 28 := by omega
    have y5 : ((n : Int) - 28).toNat = n - 28 := by omega
    have y6 : ((c : Int) - 28).toNat = c - 28 := by omega
    go_simp
  have gs240 : ∀ W : World, (Instr.slice 28 (.slice (some ⟨b, off, none⟩) n c) (some (.int .i64 240)) none none).run Try.prog W = .ok (.slice (some ⟨b, off + 240, none⟩) (n - 240) (c - 240)) W := fun W => by
    have y1 : (240 : Int) ≤ (n : Int) := by omega
    have y2 : (n : Int) ≤ (c : Int) := by omega
    have y3 : ¬ (c : Int) = 240 := by omega
    have y4 : ¬ c = 240 := by omega
    have y5 : ((n : Int) - 240).toNat = n - 240 := by omega
    have y6 : ((c : Int) - 240).toNat = c - 240 := by omega
    go_simp
  have hopb := HG.out.1
  have z240 : ¬ (n : Int) < 240 := by omega
  have z0 : (0 : Int) < (n : Int) := by omega
  have z1 : (1 : Int) < (n : Int) := by omega
  have z2 : (2 : Int) < (n : Int) := by omega
  have hopw : IntKind.i64.wrap op = op := i64_in _ (by omega)
  obtain ⟨W1, hW1⟩ : ∃ W1, w.alloc (.cells #[.int .i64 0, .int .u32 0, .int .u32 0, .int .u8 0, .int .u8 0, .int .u8 0, .int .u8 0, .int .u8 0, .int .u8 0, .int .i64 0, .int .u32 0, .int .u32 0, .int .i64 0, .int .u32 0, .int .u32 0, .int .u32 0] 27) = W1 := ⟨_, rfl⟩
  have C1 : Hid (Ob W1 w.heap.size 27 #[.int .i64 0, .int .u32 0, .int .u32 0, .int .u8 0, .int .u8 0, .int .u8 0, .int .u8 0, .int .u8 0, .int .u8 0, .int .i64 0, .int .u32 0, .int .u32 0, .int .i64 0, .int .u32 0, .int .u32 0, .int .u32 0]) := hid (by rw [← hW1]; exact Ob.new _ _ _)
  have Q1 : Hid (Only [] w W1) := hid (by rw [← hW1]; exact (Only.refl [] w).alloc _)
  have H1 := hid C1.out.lt
  have q0' := Q1.out.keep q0
  have ho1 : (op != 1) = false := by simp [hop]
  clear hop hopb
  have hd1 : decide (1 ≤ ty ∧ ty ≤ 7) = true := decide_eq_true HG.out.2.1
  have HOK : Hid (∀ p ∈ opts ty sv ak ti mk ro re, OkO p.1 p.2) := hid (by
    obtain ⟨_, ht, hti⟩ := HG.out
    obtain ⟨_, _, h3, h4, h5, h6, h7⟩ := HUB.out
    unfold U32 at h3 h4 h5 h6 h7
    unfold opts
    refine ok_addO (ok_addO (ok_addO (ok_addO (ok_addO (ok_addO (fun p hp => ?_) ?_) ?_) ?_) ?_) ?_) ?_
    · rw [show p = (53, ty) from by simpa using hp]; exact .inl ⟨rfl, ht⟩
    all_goals (unfold OkO; omega))
  go_enter Try.func14, Try.ntmps14
  go_wp2_with fail
  clear hW1 q0'
  refine wp_region_noPanic ?_
  refine rgn.regionT (R := Only []) (by kernel_rfl) (Only.refl []) (fun _ _ _ => Only.trans) (fun _ _ _ _ _ h => h) (.y 0 (.y 1 (.y 2 (.y 3 (.y 4 (.y 5 (.y 6 (.y 7 (.y 8 (.y 9 (.y 10 (.y 11 (.y 12 (.y 13 (.y 14 (.y 15 (.y 16 (.y 17 (.y 18 (.y 19 (.y 20 (.e 21 (.e 22 (.y 23 (.y 24 .z))))))))))))))))))))))))) (by kernel_rfl) (fun W hWd => ?_)
  have HWd := hid hWd; clear hWd
  have QW : Hid (Only [] W1 W) := hid (Only.eq_drew (Only.refl [] _) HWd.out)
  have QW0 := QW
  clear HWd
  refine rgn.Walk.ys (v := ?_) rfl rfl rfl ?_ ?_
  rotate_left 1
  · intro W' hW'
    go_simp
    try with_reducible rfl
  try simp only [Act.put, List.setIfInBounds_toArray, List.set_cons_zero, List.set_cons_succ]
  refine rgn.Walk.ys (v := ?_) rfl rfl rfl ?_ ?_
  rotate_left 1
  · intro W' hW'
    go_simp
    try with_reducible rfl
  try simp only [Act.put, List.setIfInBounds_toArray, List.set_cons_zero, List.set_cons_succ]
  refine rgn.Walk.ys (v := ?_) rfl rfl rfl ?_ ?_
  rotate_left 1
  · intro W' hW'
    go_simp
    try with_reducible rfl
  try simp only [Act.put, List.setIfInBounds_toArray, List.set_cons_zero, List.set_cons_succ]
  refine rgn.Walk.yn rfl rfl rfl ?_
  try simp only [Act.put, List.setIfInBounds_toArray, List.set_cons_zero, List.set_cons_succ]
  refine rgn.Walk.yn rfl rfl rfl ?_
  try simp only [Act.put, List.setIfInBounds_toArray, List.set_cons_zero, List.set_cons_succ]
  refine rgn.Walk.ys (v := ?_) rfl rfl rfl ?_ ?_
  rotate_left 1
  · intro W' hW'
    go_simp
    try with_reducible rfl
  try simp only [Act.put, List.setIfInBounds_toArray, List.set_cons_zero, List.set_cons_succ]
  refine rgn.Walk.ys (v := ?_) rfl rfl rfl ?_ ?_
  rotate_left 1
  · intro W' hW'
    go_simp
    try with_reducible rfl
  try simp only [Act.put, List.setIfInBounds_toArray, List.set_cons_zero, List.set_cons_succ]
  refine rgn.Walk.ys (v := ?_) rfl rfl rfl ?_ ?_
  rotate_left 1
  · intro W' hW'
    go_simp
    try with_reducible rfl
  try simp only [Act.put, List.setIfInBounds_toArray, List.set_cons_zero, List.set_cons_succ]
  refine rgn.Walk.ys (v := ?_) rfl rfl rfl ?_ ?_
  rotate_left 1
  · intro W' hW'
    go_simp
    try with_reducible rfl
  try simp only [Act.put, List.setIfInBounds_toArray, List.set_cons_zero, List.set_cons_succ]
  refine rgn.Walk.ys (v := ?_) rfl rfl rfl ?_ ?_
  rotate_left 1
  · intro W' hW'
    have q0 := ((Q1.out.trans QW0.out).trans hW').keep q1
    go_simp
    try with_reducible rfl
  try simp only [Act.put, List.setIfInBounds_toArray, List.set_cons_zero, List.set_cons_succ]
  refine rgn.Walk.ys (v := ?_) rfl rfl rfl ?_ ?_
  rotate_left 1
  · intro W' hW'
    go_simp
    try with_reducible rfl
  try simp only [Act.put, List.setIfInBounds_toArray, List.set_cons_zero, List.set_cons_succ]
  refine rgn.Walk.ys (v := ?_) rfl rfl rfl ?_ ?_
  rotate_left 1
  · intro W' hW'
    go_simp
    try with_reducible rfl
  try simp only [Act.put, List.setIfInBounds_toArray, List.set_cons_zero, List.set_cons_succ]
  refine rgn.Walk.ys (v := ?_) rfl rfl rfl ?_ ?_
  rotate_left 1
  · intro W' hW'
    go_simp
    try with_reducible rfl
  try simp only [Act.put, List.setIfInBounds_toArray, List.set_cons_zero, List.set_cons_succ]
  refine rgn.Walk.ys (v := ?_) rfl rfl rfl ?_ ?_
  rotate_left 1
  · intro W' hW'
    go_simp
    try with_reducible rfl
  try simp only [Act.put, List.setIfInBounds_toArray, List.set_cons_zero, List.set_cons_succ]
  refine rgn.Walk.ys (v := ?_) rfl rfl rfl ?_ ?_
  rotate_left 1
  · intro W' hW'
    go_simp
    try with_reducible rfl
  try simp only [Act.put, List.setIfInBounds_toArray, List.set_cons_zero, List.set_cons_succ]
  refine rgn.Walk.ys (v := ?_) rfl rfl rfl ?_ ?_
  rotate_left 1
  · intro W' hW'
    have q0 := ((Q1.out.trans QW0.out).trans hW').keep q2
    go_simp
    try with_reducible rfl
  try simp only [Act.put, List.setIfInBounds_toArray, List.set_cons_zero, List.set_cons_succ]
  refine rgn.Walk.ys (v := ?_) rfl rfl rfl ?_ ?_
  rotate_left 1
  · intro W' hW'
    go_simp
    try with_reducible rfl
  try simp only [Act.put, List.setIfInBounds_toArray, List.set_cons_zero, List.set_cons_succ]
  refine rgn.Walk.ys (v := ?_) rfl rfl rfl ?_ ?_
  rotate_left 1
  · intro W' hW'
    go_simp
    try with_reducible rfl
  try simp only [Act.put, List.setIfInBounds_toArray, List.set_cons_zero, List.set_cons_succ]
  refine rgn.Walk.ys (v := ?_) rfl rfl rfl ?_ ?_
  rotate_left 1
  · intro W' hW'
    go_simp
    try with_reducible rfl
  try simp only [Act.put, List.setIfInBounds_toArray, List.set_cons_zero, List.set_cons_succ]
  refine rgn.Walk.ys (v := ?_) rfl rfl rfl ?_ ?_
  rotate_left 1
  · intro W' hW'
    go_simp
    try with_reducible rfl
  try simp only [Act.put, List.setIfInBounds_toArray, List.set_cons_zero, List.set_cons_succ]
  refine rgn.Walk.ys (v := ?_) rfl rfl rfl ?_ ?_
  rotate_left 1
  · intro W' hW'
    have gs := gs236 W'
    go_simp
    try with_reducible rfl
  try simp only [Act.put, List.setIfInBounds_toArray, List.set_cons_zero, List.set_cons_succ]
  refine rgn.Walk.es ?_
  refine rgn.stepE rfl rfl (fun K hK => ?_)
  go_simp
  refine (cookie1 _).mono ?_
  rintro x w2 ⟨rfl, h2, o2⟩
  refine hK _ _ o2 ?_
  clear hK K
  have CK := hid h2.rd; have QW := hid (QW.out.trans o2)
  clear h2 o2
  try simp only [Act.put, List.setIfInBounds_toArray, List.set_cons_zero, List.set_cons_succ]
  refine rgn.Walk.es ?_
  refine rgn.stepE rfl rfl (fun K hK => ?_)
  go_simp
  refine (beq.bytesEqual _ (some ⟨b, off + 236, none⟩) _ 4 4 (c - 236) 4 [99, 130, 83, 99] [99, 130, 83, 99] (HCk.out.only_nil (Q1.out.trans QW.out)) CK.out (by decide) (by decide)).mono ?_
  rintro x w3 ⟨rfl, nq, hw3⟩
  have o3 := (Only.refl [] w2).drewN nq; rw [← hw3] at o3
  refine hK _ _ o3 ?_
  clear hK K hw3
  have QW := hid (QW.out.trans o3)
  clear o3
  try simp only [Act.put, List.setIfInBounds_toArray, List.set_cons_zero, List.set_cons_succ]
  refine rgn.Walk.ys (v := ?_) rfl rfl rfl ?_ ?_
  rotate_left 1
  · intro W' hW'
    go_simp
    try with_reducible rfl
  try simp only [Act.put, List.setIfInBounds_toArray, List.set_cons_zero, List.set_cons_succ]
  refine rgn.Walk.ys (v := ?_) rfl rfl rfl ?_ ?_
  rotate_left 1
  · intro W' hW'
    go_simp
    try with_reducible rfl
  try simp only [Act.put, List.setIfInBounds_toArray, List.set_cons_zero, List.set_cons_succ]
  refine rgn.Walk.zs (NoPanic.normal ?_)
  go_wp2_with fail
  have Q4 := QW
  refine wp_region_noPanic ?_
  refine rgn.regionT (R := AnyW) (by kernel_rfl) (fun _ => AnyW.any _ _) (fun _ _ _ _ _ => AnyW.any _ _) (fun _ _ _ _ _ h => h) (.y 0 (.y 1 (.y 2 (.y 4 (.y 5 (.b 3 8 (.b 6 8 (.y 7 (.e 8 (.e 9 .z))) (.e 6 (.y 7 (.e 9 .z)))) (.e 3 (.e 6 (.y 7 (.e 9 .z)))))))))) (by kernel_rfl) (fun W hWd => ?_)
  have HWd := hid hWd; clear hWd
  have Q6 : Hid (Only [] w3 W) := hid (Only.eq_drew (Only.refl [] _) HWd.out)
  clear HWd
  refine rgn.Walk.ys (v := ?_) rfl rfl rfl ?_ ?_
  rotate_left 1
  · intro W' hW'
    go_simp
    try with_reducible rfl
  try simp only [Act.put, List.setIfInBounds_toArray, List.set_cons_zero, List.set_cons_succ]
  refine rgn.Walk.ys (v := ?_) rfl rfl rfl ?_ ?_
  rotate_left 1
  · intro W' hW'
    go_simp
    try with_reducible rfl
  try simp only [Act.put, List.setIfInBounds_toArray, List.set_cons_zero, List.set_cons_succ]
  refine rgn.Walk.ys (v := ?_) rfl rfl rfl ?_ ?_
  rotate_left 1
  · intro W' hW'
    have gs := gs4 W'
    go_simp
    try with_reducible rfl
  try simp only [Act.put, List.setIfInBounds_toArray, List.set_cons_zero, List.set_cons_succ]
  refine rgn.Walk.ys (v := ?_) rfl rfl rfl ?_ ?_
  rotate_left 1
  · intro W' hW'
    go_simp
    try with_reducible rfl
  try simp only [Act.put, List.setIfInBounds_toArray, List.set_cons_zero, List.set_cons_succ]
  refine rgn.Walk.ys (v := ?_) rfl rfl rfl ?_ ?_
  rotate_left 1
  · intro W' hW'
    have gs := gs16 W'
    go_simp
    try with_reducible rfl
  try simp only [Act.put, List.setIfInBounds_toArray, List.set_cons_zero, List.set_cons_succ]
  refine rgn.Walk.bs ?_ ?_
  · refine rgn.stepE rfl rfl (fun K hK => ?_)
    go_simp
    refine (four23 _ b (off + 4) (n - 4) (c - 4) _ id (H4.out.only_nil ((Q1.out.trans Q4.out).trans Q6.out)) H4t.out (by omega) (by unfold maxLen; omega) idb.out).mono ?_
    rintro x w5 ⟨rfl, o5⟩
    refine hK _ _ (AnyW.any _ _) ?_
    clear hK K
    have Q6 := hid (Q6.out.trans o5)
    clear o5
    try simp only [Act.put, List.setIfInBounds_toArray, List.set_cons_zero, List.set_cons_succ]
    refine rgn.Walk.bs ?_ ?_
    · refine rgn.stepE rfl rfl (fun K hK => ?_)
      go_simp
      refine (four23 _ b (off + 16) (n - 16) (c - 16) _ yo (H16.out.only_nil ((Q1.out.trans Q4.out).trans Q6.out)) H16t.out (by omega) (by unfold maxLen; omega) yob.out).mono ?_
      rintro x w6 ⟨rfl, o6⟩
      refine hK _ _ (AnyW.any _ _) ?_
      clear hK K
      have Q6 := hid (Q6.out.trans o6)
      clear o6
      try simp only [Act.put, List.setIfInBounds_toArray, List.set_cons_zero, List.set_cons_succ]
      refine rgn.Walk.ys (v := ?_) rfl rfl rfl ?_ ?_
      rotate_left 1
      · intro W' hW'
        go_simp
        try with_reducible rfl
      try simp only [Act.put, List.setIfInBounds_toArray, List.set_cons_zero, List.set_cons_succ]
      refine rgn.Walk.es ?_
      refine rgn.stepE rfl rfl (fun K hK => ?_)
      go_simp
      refine hK _ _ (AnyW.any _ _) ?_
      clear hK K
      have O5 := hid (Ob.new w6 27 #[.int .i64 0, .int .u32 0, .int .u32 0, .int .u8 0, .int .u8 0, .int .u8 0, .int .u8 0, .int .u8 0, .int .u8 0, .int .i64 0, .int .u32 0, .int .u32 0, .int .i64 0, .int .u32 0, .int .u32 0, .int .u32 0]); have GG := hid Q6.out.size; have Q6 := hid (Q6.out.alloc (.cells #[.int .i64 0, .int .u32 0, .int .u32 0, .int .u8 0, .int .u8 0, .int .u8 0, .int .u8 0, .int .u8 0, .int .u8 0, .int .i64 0, .int .u32 0, .int .u32 0, .int .i64 0, .int .u32 0, .int .u32 0, .int .u32 0] 27))
      try simp only [Act.put, List.setIfInBounds_toArray, List.set_cons_zero, List.set_cons_succ]
      refine rgn.Walk.es ?_
      refine rgn.stepE rfl rfl (fun K hK => ?_)
      refine opStoreOb rfl 27 _ _ rfl _ #[.int .i64 op, .int .u32 id, .int .u32 yo, .int .u8 0, .int .u8 0, .int .u8 0, .int .u8 0, .int .u8 0, .int .u8 0, .int .i64 0, .int .u32 0, .int .u32 0, .int .i64 0, .int .u32 0, .int .u32 0, .int .u32 0] rfl rfl _ _ O5.out rfl (by kernel_rfl) (by simp [Value.oneCell']) ?_
      intro w7 hw7
      refine hK _ _ (AnyW.any _ _) ?_
      clear hK K
      have O7 := hid (O5.out.eq_all hw7 rfl); have o7 := Only.eq_all (Only.refl [w6.heap.size] _) hw7 (Or.inl (by simp)); have Q7 : Hid (Only [] w3 w7) := hid (Only.fresh Q6.out o7 (fun i hi => .inr (by rw [show i = w6.heap.size from by simpa using hi]; exact GG.out)))
      have G7 := hid (Nat.lt_of_lt_of_le H1.out (Nat.le_trans Q4.out.size GG.out))
      obtain ⟨m5, hm5⟩ : ∃ m5, w6.heap.size = m5 := ⟨_, rfl⟩
      rw [hm5] at O7 G7 ⊢
      have GM := hid GG.out
      rw [hm5] at GM
      clear hw7 o7 O5 Q6 GG hm5
      try simp only [Act.put, List.setIfInBounds_toArray, List.set_cons_zero, List.set_cons_succ]
      refine rgn.Walk.zs (NoPanic.normal ?_)
      go_wp2_with fail
      refine wp_region_noPanic ?_
      refine rgn.regionT (R := AnyW) (by kernel_rfl) (fun _ => AnyW.any _ _) (fun _ _ _ _ _ => AnyW.any _ _) (fun _ _ _ _ _ h => h) (.y 0 (.y 1 (.y 2 (.y 3 (.e 4 .z))))) (by kernel_rfl) (fun W hWd => ?_)
      have HWd := hid hWd; clear hWd
      have Q8 : Hid (Only [] w7 W) := hid (Only.eq_drew (Only.refl [] _) HWd.out)
      clear HWd
      refine rgn.Walk.ys (v := ?_) rfl rfl rfl ?_ ?_
      rotate_left 1
      · intro W' hW'
        go_simp
        try with_reducible rfl
      try simp only [Act.put, List.setIfInBounds_toArray, List.set_cons_zero, List.set_cons_succ]
      refine rgn.Walk.ys (v := ?_) rfl rfl rfl ?_ ?_
      rotate_left 1
      · intro W' hW'
        go_simp
        try with_reducible rfl
      try simp only [Act.put, List.setIfInBounds_toArray, List.set_cons_zero, List.set_cons_succ]
      refine rgn.Walk.ys (v := ?_) rfl rfl rfl ?_ ?_
      rotate_left 1
      · intro W' hW'
        go_simp
        try with_reducible rfl
      try simp only [Act.put, List.setIfInBounds_toArray, List.set_cons_zero, List.set_cons_succ]
      refine rgn.Walk.ys (v := ?_) rfl rfl rfl ?_ ?_
      rotate_left 1
      · intro W' hW'
        have gs := gs28 W'
        go_simp
        try with_reducible rfl
      try simp only [Act.put, List.setIfInBounds_toArray, List.set_cons_zero, List.set_cons_succ]
      refine rgn.Walk.es ?_
      refine rgn.stepE rfl rfl (fun K hK => ?_)
      refine opCopyC rfl (.tmp 50) (.tmp 52) _ _ rfl 5 Try.underlying28 (by kernel_rfl) m5 3 6 6 b (off + 28) (n - 28) (c - 28) rfl rfl #[.int .i64 op, .int .u32 id, .int .u32 yo, .int .u8 0, .int .u8 0, .int .u8 0, .int .u8 0, .int .u8 0, .int .u8 0, .int .i64 0, .int .u32 0, .int .u32 0, .int .i64 0, .int .u32 0, .int .u32 0, .int .u32 0] 27 (O7.out.only Q8.out (by simp)) _ _ (H28.out.only_nil (((Q1.out.trans Q4.out).trans Q7.out).trans Q8.out)) 6 (by omega) (by omega) H28t.out (by simp) #[.int .i64 op, .int .u32 id, .int .u32 yo, .int .u8 c0, .int .u8 c1, .int .u8 c2, .int .u8 c3, .int .u8 c4, .int .u8 c5, .int .i64 0, .int .u32 0, .int .u32 0, .int .i64 0, .int .u32 0, .int .u32 0, .int .u32 0] rfl ?_
      intro w9 hO9 o9
      refine hK _ _ (AnyW.any _ _) ?_
      clear hK K
      have O9 := hid hO9; have Q9 : Hid (Only [] w3 w9) := hid (Only.fresh (Q7.out.trans Q8.out) o9 (fun i hi => .inr (by rw [show i = m5 from by simpa using hi]; exact GM.out)))
      clear hO9 o9
      try simp only [Act.put, List.setIfInBounds_toArray, List.set_cons_zero, List.set_cons_succ]
      refine rgn.Walk.zs (NoPanic.normal ?_)
      go_wp2_with fail
      refine (readOptions1 _ m5 ⟨op, id, yo, c0, c1, c2, c3, c4, c5, 0, 0, 0, 0, 0, 0, 0⟩ (opts ty sv ak ti mk ro re) b (off + 240) (n - 240) (c - 240) O9.out HOK.out (H240.out.only_nil ((Q1.out.trans Q4.out).trans Q9.out)) (by have := G7.out; have := HBw.out; omega) (by omega) (by unfold maxLen; omega) (by omega)).mono ?_
      rintro x w10 ⟨rfl, hO10, o10⟩
      rw [sets_opts] at hO10
      have O10 : Hid (Ob w10 m5 27 #[.int .i64 op, .int .u32 id, .int .u32 yo, .int .u8 c0, .int .u8 c1, .int .u8 c2, .int .u8 c3, .int .u8 c4, .int .u8 c5, .int .i64 ty, .int .u32 sv, .int .u32 ak, .int .i64 ti, .int .u32 mk, .int .u32 ro, .int .u32 re]) := hid hO10
      have Q10 : Hid (Only [] w3 w10) := hid (Only.fresh Q9.out o10 (fun i hi => .inr (by rw [show i = m5 from by simpa using hi]; exact GM.out)))
      have Z10 := hid (C1.out.only (Q4.out.trans Q10.out) (by simp))
      clear hO10 o10 O9 Q9 O7 Q7 Q8
      have k9 := O10.out.cell 9
      go_wp2_with fail
      clear k9
      refine (type1 _ ty).mono ?_
      rintro x w11 ⟨rfl, hw11⟩
      subst hw11
      rw [hd1]
      go_wp2_with (first
        | (refine wp_loadOb rfl 27 _ rfl _ rfl _ _ O10.out Try.underlying27 rfl (by kernel_rfl) ?_; try simp only [Act.put, List.setIfInBounds_toArray, List.set_cons_zero, List.set_cons_succ])
        | (refine wp_storeOb rfl 27 _ _ rfl _ _ rfl rfl _ _ Z10.out rfl (by kernel_rfl) (by simp [Value.oneCell']) ?_; intro w12 hW12; try simp only [Act.put, List.setIfInBounds_toArray, List.set_cons_zero, List.set_cons_succ]; have o12 := Only.eq_all (Only.refl [w.heap.size] _) hW12 (Or.inl (by simp)); have Z12 := hid (Z10.out.eq_all hW12 rfl); have Q12 : Hid (Only [] w w12) := hid (Only.fresh ((Q1.out.trans Q4.out).trans Q10.out) o12 (fun i hi => .inr (by rw [show i = w.heap.size from by simpa using hi]; exact Nat.le_refl _))); clear hW12 o12))
      have r0 := Z12.out.cell 0; have r1 := Z12.out.cell 1; have r2 := Z12.out.cell 2; have r3 := Z12.out.cell 3; have r4 := Z12.out.cell 4; have r5 := Z12.out.cell 5; have r6 := Z12.out.cell 6; have r7 := Z12.out.cell 7; have r8 := Z12.out.cell 8; have r9 := Z12.out.cell 9; have r10 := Z12.out.cell 10; have r11 := Z12.out.cell 11; have r12 := Z12.out.cell 12; have r13 := Z12.out.cell 13; have r14 := Z12.out.cell 14; have r15 := Z12.out.cell 15
      exact bodyPost_ret (v := .tuple #[.agg #[.int .i64 op, .int .u32 id, .int .u32 yo, .int .u8 c0, .int .u8 c1, .int .u8 c2, .int .u8 c3, .int .u8 c4, .int .u8 c5, .int .i64 ty, .int .u32 sv, .int .u32 ak, .int .i64 ti, .int .u32 mk, .int .u32 ro, .int .u32 re], .int .i64 0]) (by simp [results, Try.results14, go_sem, *]) rfl ⟨rfl, Q12.out⟩
    · refine rgn.stepE rfl rfl (fun K hK => ?_)
      go_simp
      refine hK _ _ (AnyW.any _ _) ?_
      clear hK K
      have O5 := hid (Ob.new w5 27 #[.int .i64 0, .int .u32 0, .int .u32 0, .int .u8 0, .int .u8 0, .int .u8 0, .int .u8 0, .int .u8 0, .int .u8 0, .int .i64 0, .int .u32 0, .int .u32 0, .int .i64 0, .int .u32 0, .int .u32 0, .int .u32 0]); have GG := hid Q6.out.size; have Q6 := hid (Q6.out.alloc (.cells #[.int .i64 0, .int .u32 0, .int .u32 0, .int .u8 0, .int .u8 0, .int .u8 0, .int .u8 0, .int .u8 0, .int .u8 0, .int .i64 0, .int .u32 0, .int .u32 0, .int .i64 0, .int .u32 0, .int .u32 0, .int .u32 0] 27))
      try simp only [Act.put, List.setIfInBounds_toArray, List.set_cons_zero, List.set_cons_succ]
      refine rgn.Walk.es ?_
      refine rgn.stepE rfl rfl (fun K hK => ?_)
      go_simp
      refine (four23 _ b (off + 16) (n - 16) (c - 16) _ yo (H16.out.only_nil ((Q1.out.trans Q4.out).trans Q6.out)) H16t.out (by omega) (by unfold maxLen; omega) yob.out).mono ?_
      rintro x w6 ⟨rfl, o6⟩
      refine hK _ _ (AnyW.any _ _) ?_
      clear hK K
      have Q6 := hid (Q6.out.trans o6)
      have O5 := hid (O5.out.only o6 (by simp))
      clear o6
      try simp only [Act.put, List.setIfInBounds_toArray, List.set_cons_zero, List.set_cons_succ]
      refine rgn.Walk.ys (v := ?_) rfl rfl rfl ?_ ?_
      rotate_left 1
      · intro W' hW'
        go_simp
        try with_reducible rfl
      try simp only [Act.put, List.setIfInBounds_toArray, List.set_cons_zero, List.set_cons_succ]
      refine rgn.Walk.es ?_
      refine rgn.stepE rfl rfl (fun K hK => ?_)
      refine opStoreOb rfl 27 _ _ rfl _ #[.int .i64 op, .int .u32 id, .int .u32 yo, .int .u8 0, .int .u8 0, .int .u8 0, .int .u8 0, .int .u8 0, .int .u8 0, .int .i64 0, .int .u32 0, .int .u32 0, .int .i64 0, .int .u32 0, .int .u32 0, .int .u32 0] rfl rfl _ _ O5.out rfl (by kernel_rfl) (by simp [Value.oneCell']) ?_
      intro w7 hw7
      refine hK _ _ (AnyW.any _ _) ?_
      clear hK K
      have O7 := hid (O5.out.eq_all hw7 rfl); have o7 := Only.eq_all (Only.refl [w5.heap.size] _) hw7 (Or.inl (by simp)); have Q7 : Hid (Only [] w3 w7) := hid (Only.fresh Q6.out o7 (fun i hi => .inr (by rw [show i = w5.heap.size from by simpa using hi]; exact GG.out)))
      have G7 := hid (Nat.lt_of_lt_of_le H1.out (Nat.le_trans Q4.out.size GG.out))
      obtain ⟨m5, hm5⟩ : ∃ m5, w5.heap.size = m5 := ⟨_, rfl⟩
      rw [hm5] at O7 G7 ⊢
      have GM := hid GG.out
      rw [hm5] at GM
      clear hw7 o7 O5 Q6 GG hm5
      try simp only [Act.put, List.setIfInBounds_toArray, List.set_cons_zero, List.set_cons_succ]
      refine rgn.Walk.zs (NoPanic.normal ?_)
      go_wp2_with fail
      refine wp_region_noPanic ?_
      refine rgn.regionT (R := AnyW) (by kernel_rfl) (fun _ => AnyW.any _ _) (fun _ _ _ _ _ => AnyW.any _ _) (fun _ _ _ _ _ h => h) (.y 0 (.y 1 (.y 2 (.y 3 (.e 4 .z))))) (by kernel_rfl) (fun W hWd => ?_)
      have HWd := hid hWd; clear hWd
      have Q8 : Hid (Only [] w7 W) := hid (Only.eq_drew (Only.refl [] _) HWd.out)
      clear HWd
      refine rgn.Walk.ys (v := ?_) rfl rfl rfl ?_ ?_
      rotate_left 1
      · intro W' hW'
        go_simp
        try with_reducible rfl
      try simp only [Act.put, List.setIfInBounds_toArray, List.set_cons_zero, List.set_cons_succ]
      refine rgn.Walk.ys (v := ?_) rfl rfl rfl ?_ ?_
      rotate_left 1
      · intro W' hW'
        go_simp
        try with_reducible rfl
      try simp only [Act.put, List.setIfInBounds_toArray, List.set_cons_zero, List.set_cons_succ]
      refine rgn.Walk.ys (v := ?_) rfl rfl rfl ?_ ?_
      rotate_left 1
      · intro W' hW'
        go_simp
        try with_reducible rfl
      try simp only [Act.put, List.setIfInBounds_toArray, List.set_cons_zero, List.set_cons_succ]
      refine rgn.Walk.ys (v := ?_) rfl rfl rfl ?_ ?_
      rotate_left 1
      · intro W' hW'
        have gs := gs28 W'
        go_simp
        try with_reducible rfl
      try simp only [Act.put, List.setIfInBounds_toArray, List.set_cons_zero, List.set_cons_succ]
      refine rgn.Walk.es ?_
      refine rgn.stepE rfl rfl (fun K hK => ?_)
      refine opCopyC rfl (.tmp 50) (.tmp 52) _ _ rfl 5 Try.underlying28 (by kernel_rfl) m5 3 6 6 b (off + 28) (n - 28) (c - 28) rfl rfl #[.int .i64 op, .int .u32 id, .int .u32 yo, .int .u8 0, .int .u8 0, .int .u8 0, .int .u8 0, .int .u8 0, .int .u8 0, .int .i64 0, .int .u32 0, .int .u32 0, .int .i64 0, .int .u32 0, .int .u32 0, .int .u32 0] 27 (O7.out.only Q8.out (by simp)) _ _ (H28.out.only_nil (((Q1.out.trans Q4.out).trans Q7.out).trans Q8.out)) 6 (by omega) (by omega) H28t.out (by simp) #[.int .i64 op, .int .u32 id, .int .u32 yo, .int .u8 c0, .int .u8 c1, .int .u8 c2, .int .u8 c3, .int .u8 c4, .int .u8 c5, .int .i64 0, .int .u32 0, .int .u32 0, .int .i64 0, .int .u32 0, .int .u32 0, .int .u32 0] rfl ?_
      intro w9 hO9 o9
      refine hK _ _ (AnyW.any _ _) ?_
      clear hK K
      have O9 := hid hO9; have Q9 : Hid (Only [] w3 w9) := hid (Only.fresh (Q7.out.trans Q8.out) o9 (fun i hi => .inr (by rw [show i = m5 from by simpa using hi]; exact GM.out)))
      clear hO9 o9
      try simp only [Act.put, List.setIfInBounds_toArray, List.set_cons_zero, List.set_cons_succ]
      refine rgn.Walk.zs (NoPanic.normal ?_)
      go_wp2_with fail
      refine (readOptions1 _ m5 ⟨op, id, yo, c0, c1, c2, c3, c4, c5, 0, 0, 0, 0, 0, 0, 0⟩ (opts ty sv ak ti mk ro re) b (off + 240) (n - 240) (c - 240) O9.out HOK.out (H240.out.only_nil ((Q1.out.trans Q4.out).trans Q9.out)) (by have := G7.out; have := HBw.out; omega) (by omega) (by unfold maxLen; omega) (by omega)).mono ?_
      rintro x w10 ⟨rfl, hO10, o10⟩
      rw [sets_opts] at hO10
      have O10 : Hid (Ob w10 m5 27 #[.int .i64 op, .int .u32 id, .int .u32 yo, .int .u8 c0, .int .u8 c1, .int .u8 c2, .int .u8 c3, .int .u8 c4, .int .u8 c5, .int .i64 ty, .int .u32 sv, .int .u32 ak, .int .i64 ti, .int .u32 mk, .int .u32 ro, .int .u32 re]) := hid hO10
      have Q10 : Hid (Only [] w3 w10) := hid (Only.fresh Q9.out o10 (fun i hi => .inr (by rw [show i = m5 from by simpa using hi]; exact GM.out)))
      have Z10 := hid (C1.out.only (Q4.out.trans Q10.out) (by simp))
      clear hO10 o10 O9 Q9 O7 Q7 Q8
      have k9 := O10.out.cell 9
      go_wp2_with fail
      clear k9
      refine (type1 _ ty).mono ?_
      rintro x w11 ⟨rfl, hw11⟩
      subst hw11
      rw [hd1]
      go_wp2_with (first
        | (refine wp_loadOb rfl 27 _ rfl _ rfl _ _ O10.out Try.underlying27 rfl (by kernel_rfl) ?_; try simp only [Act.put, List.setIfInBounds_toArray, List.set_cons_zero, List.set_cons_succ])
        | (refine wp_storeOb rfl 27 _ _ rfl _ _ rfl rfl _ _ Z10.out rfl (by kernel_rfl) (by simp [Value.oneCell']) ?_; intro w12 hW12; try simp only [Act.put, List.setIfInBounds_toArray, List.set_cons_zero, List.set_cons_succ]; have o12 := Only.eq_all (Only.refl [w.heap.size] _) hW12 (Or.inl (by simp)); have Z12 := hid (Z10.out.eq_all hW12 rfl); have Q12 : Hid (Only [] w w12) := hid (Only.fresh ((Q1.out.trans Q4.out).trans Q10.out) o12 (fun i hi => .inr (by rw [show i = w.heap.size from by simpa using hi]; exact Nat.le_refl _))); clear hW12 o12))
      have r0 := Z12.out.cell 0; have r1 := Z12.out.cell 1; have r2 := Z12.out.cell 2; have r3 := Z12.out.cell 3; have r4 := Z12.out.cell 4; have r5 := Z12.out.cell 5; have r6 := Z12.out.cell 6; have r7 := Z12.out.cell 7; have r8 := Z12.out.cell 8; have r9 := Z12.out.cell 9; have r10 := Z12.out.cell 10; have r11 := Z12.out.cell 11; have r12 := Z12.out.cell 12; have r13 := Z12.out.cell 13; have r14 := Z12.out.cell 14; have r15 := Z12.out.cell 15
      exact bodyPost_ret (v := .tuple #[.agg #[.int .i64 op, .int .u32 id, .int .u32 yo, .int .u8 c0, .int .u8 c1, .int .u8 c2, .int .u8 c3, .int .u8 c4, .int .u8 c5, .int .i64 ty, .int .u32 sv, .int .u32 ak, .int .i64 ti, .int .u32 mk, .int .u32 ro, .int .u32 re], .int .i64 0]) (by simp [results, Try.results14, go_sem, *]) rfl ⟨rfl, Q12.out⟩
  · refine rgn.stepE rfl rfl (fun K hK => ?_)
    go_simp
    refine hK _ _ (AnyW.any _ _) ?_
    clear hK K
    have O5 := hid (Ob.new W 27 #[.int .i64 0, .int .u32 0, .int .u32 0, .int .u8 0, .int .u8 0, .int .u8 0, .int .u8 0, .int .u8 0, .int .u8 0, .int .i64 0, .int .u32 0, .int .u32 0, .int .i64 0, .int .u32 0, .int .u32 0, .int .u32 0]); have GG := hid Q6.out.size; have Q6 := hid (Q6.out.alloc (.cells #[.int .i64 0, .int .u32 0, .int .u32 0, .int .u8 0, .int .u8 0, .int .u8 0, .int .u8 0, .int .u8 0, .int .u8 0, .int .i64 0, .int .u32 0, .int .u32 0, .int .i64 0, .int .u32 0, .int .u32 0, .int .u32 0] 27))
    try simp only [Act.put, List.setIfInBounds_toArray, List.set_cons_zero, List.set_cons_succ]
    refine rgn.Walk.es ?_
    refine rgn.stepE rfl rfl (fun K hK => ?_)
    go_simp
    refine (four23 _ b (off + 4) (n - 4) (c - 4) _ id (H4.out.only_nil ((Q1.out.trans Q4.out).trans Q6.out)) H4t.out (by omega) (by unfold maxLen; omega) idb.out).mono ?_
    rintro x w5 ⟨rfl, o5⟩
    refine hK _ _ (AnyW.any _ _) ?_
    clear hK K
    have Q6 := hid (Q6.out.trans o5)
    have O5 := hid (O5.out.only o5 (by simp))
    clear o5
    try simp only [Act.put, List.setIfInBounds_toArray, List.set_cons_zero, List.set_cons_succ]
    refine rgn.Walk.es ?_
    refine rgn.stepE rfl rfl (fun K hK => ?_)
    go_simp
    refine (four23 _ b (off + 16) (n - 16) (c - 16) _ yo (H16.out.only_nil ((Q1.out.trans Q4.out).trans Q6.out)) H16t.out (by omega) (by unfold maxLen; omega) yob.out).mono ?_
    rintro x w6 ⟨rfl, o6⟩
    refine hK _ _ (AnyW.any _ _) ?_
    clear hK K
    have Q6 := hid (Q6.out.trans o6)
    have O5 := hid (O5.out.only o6 (by simp))
    clear o6
    try simp only [Act.put, List.setIfInBounds_toArray, List.set_cons_zero, List.set_cons_succ]
    refine rgn.Walk.ys (v := ?_) rfl rfl rfl ?_ ?_
    rotate_left 1
    · intro W' hW'
      go_simp
      try with_reducible rfl
    try simp only [Act.put, List.setIfInBounds_toArray, List.set_cons_zero, List.set_cons_succ]
    refine rgn.Walk.es ?_
    refine rgn.stepE rfl rfl (fun K hK => ?_)
    refine opStoreOb rfl 27 _ _ rfl _ #[.int .i64 op, .int .u32 id, .int .u32 yo, .int .u8 0, .int .u8 0, .int .u8 0, .int .u8 0, .int .u8 0, .int .u8 0, .int .i64 0, .int .u32 0, .int .u32 0, .int .i64 0, .int .u32 0, .int .u32 0, .int .u32 0] rfl rfl _ _ O5.out rfl (by kernel_rfl) (by simp [Value.oneCell']) ?_
    intro w7 hw7
    refine hK _ _ (AnyW.any _ _) ?_
    clear hK K
    have O7 := hid (O5.out.eq_all hw7 rfl); have o7 := Only.eq_all (Only.refl [W.heap.size] _) hw7 (Or.inl (by simp)); have Q7 : Hid (Only [] w3 w7) := hid (Only.fresh Q6.out o7 (fun i hi => .inr (by rw [show i = W.heap.size from by simpa using hi]; exact GG.out)))
    have G7 := hid (Nat.lt_of_lt_of_le H1.out (Nat.le_trans Q4.out.size GG.out))
    obtain ⟨m5, hm5⟩ : ∃ m5, W.heap.size = m5 := ⟨_, rfl⟩
    rw [hm5] at O7 G7 ⊢
    have GM := hid GG.out
    rw [hm5] at GM
    clear hw7 o7 O5 Q6 GG hm5
    try simp only [Act.put, List.setIfInBounds_toArray, List.set_cons_zero, List.set_cons_succ]
    refine rgn.Walk.zs (NoPanic.normal ?_)
    go_wp2_with fail
    refine wp_region_noPanic ?_
    refine rgn.regionT (R := AnyW) (by kernel_rfl) (fun _ => AnyW.any _ _) (fun _ _ _ _ _ => AnyW.any _ _) (fun _ _ _ _ _ h => h) (.y 0 (.y 1 (.y 2 (.y 3 (.e 4 .z))))) (by kernel_rfl) (fun W hWd => ?_)
    have HWd := hid hWd; clear hWd
    have Q8 : Hid (Only [] w7 W) := hid (Only.eq_drew (Only.refl [] _) HWd.out)
    clear HWd
    refine rgn.Walk.ys (v := ?_) rfl rfl rfl ?_ ?_
    rotate_left 1
    · intro W' hW'
      go_simp
      try with_reducible rfl
    try simp only [Act.put, List.setIfInBounds_toArray, List.set_cons_zero, List.set_cons_succ]
    refine rgn.Walk.ys (v := ?_) rfl rfl rfl ?_ ?_
    rotate_left 1
    · intro W' hW'
      go_simp
      try with_reducible rfl
    try simp only [Act.put, List.setIfInBounds_toArray, List.set_cons_zero, List.set_cons_succ]
    refine rgn.Walk.ys (v := ?_) rfl rfl rfl ?_ ?_
    rotate_left 1
    · intro W' hW'
      go_simp
      try with_reducible rfl
    try simp only [Act.put, List.setIfInBounds_toArray, List.set_cons_zero, List.set_cons_succ]
    refine rgn.Walk.ys (v := ?_) rfl rfl rfl ?_ ?_
    rotate_left 1
    · intro W' hW'
      have gs := gs28 W'
      go_simp
      try with_reducible rfl
    try simp only [Act.put, List.setIfInBounds_toArray, List.set_cons_zero, List.set_cons_succ]
    refine rgn.Walk.es ?_
    refine rgn.stepE rfl rfl (fun K hK => ?_)
    refine opCopyC rfl (.tmp 50) (.tmp 52) _ _ rfl 5 Try.underlying28 (by kernel_rfl) m5 3 6 6 b (off + 28) (n - 28) (c - 28) rfl rfl #[.int .i64 op, .int .u32 id, .int .u32 yo, .int .u8 0, .int .u8 0, .int .u8 0, .int .u8 0, .int .u8 0, .int .u8 0, .int .i64 0, .int .u32 0, .int .u32 0, .int .i64 0, .int .u32 0, .int .u32 0, .int .u32 0] 27 (O7.out.only Q8.out (by simp)) _ _ (H28.out.only_nil (((Q1.out.trans Q4.out).trans Q7.out).trans Q8.out)) 6 (by omega) (by omega) H28t.out (by simp) #[.int .i64 op, .int .u32 id, .int .u32 yo, .int .u8 c0, .int .u8 c1, .int .u8 c2, .int .u8 c3, .int .u8 c4, .int .u8 c5, .int .i64 0, .int .u32 0, .int .u32 0, .int .i64 0, .int .u32 0, .int .u32 0, .int .u32 0] rfl ?_
    intro w9 hO9 o9
    refine hK _ _ (AnyW.any _ _) ?_
    clear hK K
    have O9 := hid hO9; have Q9 : Hid (Only [] w3 w9) := hid (Only.fresh (Q7.out.trans Q8.out) o9 (fun i hi => .inr (by rw [show i = m5 from by simpa using hi]; exact GM.out)))
    clear hO9 o9
    try simp only [Act.put, List.setIfInBounds_toArray, List.set_cons_zero, List.set_cons_succ]
    refine rgn.Walk.zs (NoPanic.normal ?_)
    go_wp2_with fail
    refine (readOptions1 _ m5 ⟨op, id, yo, c0, c1, c2, c3, c4, c5, 0, 0, 0, 0, 0, 0, 0⟩ (opts ty sv ak ti mk ro re) b (off + 240) (n - 240) (c - 240) O9.out HOK.out (H240.out.only_nil ((Q1.out.trans Q4.out).trans Q9.out)) (by have := G7.out; have := HBw.out; omega) (by omega) (by unfold maxLen; omega) (by omega)).mono ?_
    rintro x w10 ⟨rfl, hO10, o10⟩
    rw [sets_opts] at hO10
    have O10 : Hid (Ob w10 m5 27 #[.int .i64 op, .int .u32 id, .int .u32 yo, .int .u8 c0, .int .u8 c1, .int .u8 c2, .int .u8 c3, .int .u8 c4, .int .u8 c5, .int .i64 ty, .int .u32 sv, .int .u32 ak, .int .i64 ti, .int .u32 mk, .int .u32 ro, .int .u32 re]) := hid hO10
    have Q10 : Hid (Only [] w3 w10) := hid (Only.fresh Q9.out o10 (fun i hi => .inr (by rw [show i = m5 from by simpa using hi]; exact GM.out)))
    have Z10 := hid (C1.out.only (Q4.out.trans Q10.out) (by simp))
    clear hO10 o10 O9 Q9 O7 Q7 Q8
    have k9 := O10.out.cell 9
    go_wp2_with fail
    clear k9
    refine (type1 _ ty).mono ?_
    rintro x w11 ⟨rfl, hw11⟩
    subst hw11
    rw [hd1]
    go_wp2_with (first
      | (refine wp_loadOb rfl 27 _ rfl _ rfl _ _ O10.out Try.underlying27 rfl (by kernel_rfl) ?_; try simp only [Act.put, List.setIfInBounds_toArray, List.set_cons_zero, List.set_cons_succ])
      | (refine wp_storeOb rfl 27 _ _ rfl _ _ rfl rfl _ _ Z10.out rfl (by kernel_rfl) (by simp [Value.oneCell']) ?_; intro w12 hW12; try simp only [Act.put, List.setIfInBounds_toArray, List.set_cons_zero, List.set_cons_succ]; have o12 := Only.eq_all (Only.refl [w.heap.size] _) hW12 (Or.inl (by simp)); have Z12 := hid (Z10.out.eq_all hW12 rfl); have Q12 : Hid (Only [] w w12) := hid (Only.fresh ((Q1.out.trans Q4.out).trans Q10.out) o12 (fun i hi => .inr (by rw [show i = w.heap.size from by simpa using hi]; exact Nat.le_refl _))); clear hW12 o12))
    have r0 := Z12.out.cell 0; have r1 := Z12.out.cell 1; have r2 := Z12.out.cell 2; have r3 := Z12.out.cell 3; have r4 := Z12.out.cell 4; have r5 := Z12.out.cell 5; have r6 := Z12.out.cell 6; have r7 := Z12.out.cell 7; have r8 := Z12.out.cell 8; have r9 := Z12.out.cell 9; have r10 := Z12.out.cell 10; have r11 := Z12.out.cell 11; have r12 := Z12.out.cell 12; have r13 := Z12.out.cell 13; have r14 := Z12.out.cell 14; have r15 := Z12.out.cell 15
    exact bodyPost_ret (v := .tuple #[.agg #[.int .i64 op, .int .u32 id, .int .u32 yo, .int .u8 c0, .int .u8 c1, .int .u8 c2, .int .u8 c3, .int .u8 c4, .int .u8 c5, .int .i64 ty, .int .u32 sv, .int .u32 ak, .int .i64 ti, .int .u32 mk, .int .u32 ro, .int .u32 re], .int .i64 0]) (by simp [results, Try.results14, go_sem, *]) rfl ⟨rfl, Q12.out⟩
end Go.Proofs.Ytdpmjghdmpaehaa.ls
