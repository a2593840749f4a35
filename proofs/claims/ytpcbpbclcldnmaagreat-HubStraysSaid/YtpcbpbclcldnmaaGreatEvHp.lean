/-
  The laws' own helpers over rows of which the end is not known: calls of them are known ahead, by the contracts of their texts. Conditions: those contracts.
-/
import Derived.Test.YtpcbpbclcldnmaaGreatEvS
import Derived.Test.YtpcbpbclcldnmaaGreatOwn
namespace Go.Proofs.YtpcbpbclcldnmaaGreat.ev
set_option linter.unusedVariables false
set_option linter.unusedSimpArgs false
variable {P : Program} {N : Nat} {β : Mp}
/-- A byte, as far as it is seen. -/
def byteV : Value → Bool
  | .int .u8 (.ofNat n) => Nat.ble n 255
  | .chan (some j) => Nat.ble 1048576 j
  | _ => false
theorem byteV_ok [Env] {v u : Value} (hb : byteV v = true) (h : VR β v u) : ∃ z : Int, u = .int .u8 z ∧ 0 ≤ z ∧ z ≤ 255 ∧ u = real v := by
  unfold byteV at hb
  split at hb
  · rename_i n
    have := Nat.le_of_ble_eq_true hb
    rw [h.int_eq]
    exact ⟨n, rfl, by omega, by omega, rfl⟩
  · rename_i j
    obtain ⟨z, h1, h2, h3⟩ := Env.byte j (Nat.le_of_ble_eq_true hb)
    have hu : u = Env.E j := by cases h; rfl
    exact ⟨z, by rw [hu, h1], h2, h3, by rw [hu]; rfl⟩
  · cases hb
def bytesC : Cs → Bool
  | .sym a _ _ _ => Nat.ble 1048576 a
  | .cat _ (.leaf ys) (.sym a _ _ _) => ys.all byteV && Nat.ble 1048576 a
  | _ => false
theorem opqs_bytes {a k : Nat} (h : Nat.ble 1048576 a = true) : (opqs a k).all byteV = true := by
  have := Nat.le_of_ble_eq_true h
  unfold opqs
  rw [List.all_eq_true]
  intro v hv
  obtain ⟨j, _, rfl⟩ := List.mem_map.1 hv
  exact Nat.ble_eq_true_of_le (by omega)
theorem bytesC_ok [Env] {X : Cs} (h : bytesC X = true) : X.list.all byteV = true := by
  unfold bytesC at h
  split at h
  · exact opqs_bytes h
  · simp only [Bool.and_eq_true] at h
    simp only [Cs.list, List.all_append, h.1, opqs_bytes h.2, Bool.and_self]
  · cases h
/-- The same cells, as far as they are told apart. -/
def eqCn : Cs → Cs → Bool
  | .sym a q d _, .sym a' q' d' _ => Nat.beq a a' && (Nat.beq q q' && Nat.beq d d')
  | .cat _ (.leaf ys) (.sym a q d _), .cat _ (.leaf ys') (.sym a' q' d' _) => samesV ys ys' && (Nat.beq a a' && (Nat.beq q q' && Nat.beq d d'))
  | _, _ => false
theorem eqCn_ok [Env] {X Y : Cs} (h : eqCn X Y = true) : X.list = Y.list := by
  unfold eqCn at h
  split at h
  · simp only [Bool.and_eq_true] at h
    rw [Cs.list, Cs.list, Nat.of_beq h.1, Nat.of_beq h.2.1, Nat.of_beq h.2.2]
  · simp only [Bool.and_eq_true] at h
    simp only [Cs.list]
    rw [samesV_eq h.1, Nat.of_beq h.2.1, Nat.of_beq h.2.2.1, Nat.of_beq h.2.2.2]
  · cases h
/-- What a slice of which the end is not known holds. -/
def contentS : Value → Comp Cs
  | .slice (some ⟨j, o, some (q + 1)⟩) l d => bind (rd j) fun ao => bind (ofOpt (symOf o q l d ao)) fun X => gd (bytesC X) (ret X)
  | _ => fail
theorem contentS_loc {x : Value} : Local (contentS x) := by
  unfold contentS
  split
  · exact Local.bind (Local.rd _) fun _ => Local.bind (Local.ofOpt _) fun _ => Local.gd (Local.ret _)
  · exact Local.fail
def intOfV : Value → Int
  | .int _ n => n
  | _ => 0
structure Cont [Env] (β : Mp) (w : World) (X : Cs) (x x' : Value) (zs : List Int) : Prop where
  form : ∃ j o q l d I a' C, x = .slice (some ⟨j, o, some (q + 1)⟩) l d ∧ x' = .slice (some a') (lenS q d) C ∧ Rd .u8 w (some a') (lenS q d) zs ∧ X.list.length = lenS q d ∧ lenOf q ≤ 2 ^ 40 ∧ β j = some I ∧ o + lenS q d ≤ I.n ∧ lenS q d ≤ C ∧ l ≤ lenS q d ∧ ∃ n : Nat, Env.E q = .int .i64 n
  ok : X.ok
  list : X.list.map real = zs.map (Value.int .u8)
  bytes : ∀ z ∈ zs, 0 ≤ z ∧ z ≤ 255
  pw : PW β X.list (zs.map (Value.int .u8))
  byt : X.list.all byteV = true
theorem contentS_ok [Env] {x x' : Value} {c : Nat} {h : Tr} {w : World} {o : Out Cs} (he : contentS x c h = some o) (hx : VR β x x') (hs : Sim P N β h w) : o.c = c ∧ o.h = h ∧ ∃ zs, Cont β w o.a x x' zs := by
  unfold contentS at he
  split at he
  rotate_left
  · cases he
  rename_i j off q l d
  obtain ⟨o1, q1, ho1, hq1, rfl⟩ := bind_some he
  obtain ⟨r1, g1⟩ := rd_some ho1
  obtain ⟨o2, q2, ho2, hq2, rfl⟩ := bind_some hq1
  obtain ⟨X, hX, rfl⟩ := ofOpt_some ho2
  obtain ⟨hby, hq2⟩ := gd_some hq2
  simp only [ev.ret, Option.some.injEq] at hq2; subst hq2
  have ec : o1.c = c := by rw [r1]
  have eh : o1.h = h := by rw [r1]
  refine ⟨ec, eh, ?_⟩
  generalize o1.a = ao at hX g1
  cases hx with
  | @ssl _ I ax _ _ _ _ C hβ k1 k2 k3 k4 k5 k6 =>
    obtain ⟨I', hI, _, hlt, hob⟩ := hs.obj j ao g1
    rw [hβ] at hI; cases hI
    cases ao with
    | map es clk => cases hX
    | iter q0 p0 => cases hX
    | mapIt q0 q1 q2 q3 => cases hX
    | row D te g =>
      obtain ⟨hok, ws, hpw, hcl, hra, _, _, _⟩ := hob
      obtain ⟨hXok, hXl⟩ := symC_ok hok hX k1 (by rw [hcl]; exact k3)
      have hpx : PW β X.list ((ws.drop off).take (lenS q d)) := by rw [hXl]; exact (hpw.drop off).take _
      have hXlen : X.list.length = lenS q d := by rw [hXl, List.length_take, List.length_drop, hcl]; omega
      obtain ⟨us, hus⟩ : ∃ us, us = (ws.drop off).take (lenS q d) := ⟨_, rfl⟩
      rw [← hus] at hpx
      have hbs := bytesC_ok hby
      have hel : ∀ (k : Nat) (v u : Value), X.list[k]? = some v → us[k]? = some u → ∃ z : Int, u = .int .u8 z ∧ 0 ≤ z ∧ z ≤ 255 ∧ u = real v := fun k v u hv hu => by
        rw [List.all_eq_true] at hbs
        exact byteV_ok (hbs v (List.mem_of_getElem? hv)) (hpx.2 k v u hv hu)
      have hmem : ∀ u ∈ us, ∃ z : Int, u = .int .u8 z ∧ 0 ≤ z ∧ z ≤ 255 := fun u hu => by
        obtain ⟨k, hk⟩ := List.getElem?_of_mem hu
        have hk2 : k < X.list.length := by rw [hpx.1]; exact (List.getElem?_eq_some_iff.1 hk).1
        obtain ⟨z, h1, h2, h3, _⟩ := hel k _ u (List.getElem?_eq_getElem hk2) hk
        exact ⟨z, h1, h2, h3⟩
      have hzus : (us.map intOfV).map (Value.int .u8) = us := by
        rw [List.map_map]
        conv => rhs; rw [← List.map_id us]
        refine List.map_congr_left fun u hu => ?_
        obtain ⟨z, rfl, _⟩ := hmem u hu
        rfl
      have hreal : X.list.map real = us := by
        apply List.ext_getElem?
        intro k
        rw [List.getElem?_map]
        by_cases hk : k < X.list.length
        · have hk2 : k < us.length := by rw [← hpx.1]; exact hk
          obtain ⟨z, _, _, _, h4⟩ := hel k _ _ (List.getElem?_eq_getElem hk) (List.getElem?_eq_getElem hk2)
          rw [List.getElem?_eq_getElem hk, List.getElem?_eq_getElem hk2, h4]; rfl
        · rw [List.getElem?_eq_none (by omega), List.getElem?_eq_none (by rw [← hpx.1]; omega)]; rfl
      have hbd : ∀ z ∈ us.map intOfV, 0 ≤ z ∧ z ≤ 255 := fun z hz => by
        obtain ⟨u, hu, rfl⟩ := List.mem_map.1 hz
        obtain ⟨y, rfl, h2, h3⟩ := hmem u hu
        exact ⟨h2, h3⟩
      refine ⟨us.map intOfV, ⟨j, off, q, l, d, I, ax, C, rfl, rfl, ⟨by rw [List.length_map, ← hpx.1, hXlen], fun z hz => (Lit.wf_int_iff .u8 z).2 (hbd z hz), fun hn => ?_⟩, hXlen, k4, hβ, k3, k2, k1, k5⟩, hXok, by rw [hreal, hzus], hbd, by rw [hzus]; exact hpx, hbs⟩
      have hax : ax = ⟨I.blk, I.base + off, none⟩ := by
        rcases k6 with k6 | k6
        · exact k6
        · omega
      subst hax
      refine ⟨I.blk, I.base + off, rfl, fun k hk => ?_⟩
      have hk2 : k < us.length := by rw [← hpx.1, hXlen]; exact hk
      have := range_sub (n := lenS q d) (k := off) hra k us[k] (by rw [← hus]; exact List.getElem?_eq_getElem hk2)
      rw [this]
      obtain ⟨z, hz, _⟩ := hmem us[k] (List.getElem_mem hk2)
      rw [List.getD_eq_getElem?_getD, List.getElem?_map, List.getElem?_eq_getElem hk2, hz]
      rfl
/-! ### The helpers -/
structure Hn where
  sm : FuncId
  rm : FuncId
  st : FuncId
  bt : TypeId
def hasBody (P : Program) (k : FuncId) : Prop := ∃ fn, P.funcs[k]? = some fn ∧ (fn.name == "runtime.NumGoroutine") = false ∧ fn.body.isNone = false
structure HelpC (P : Program) (H : Hn) : Prop where
  b1 : hasBody P H.sm
  b2 : hasBody P H.rm
  b3 : hasBody P H.st
  same : ∀ (w : World) (A B : Option Addr) (n m c d : Nat) (x y : List Int), Rd .u8 w A n x → Rd .u8 w B m y → n ≤ 140737488355328 → m ≤ 140737488355328 →
    Calls P H.sm #[.slice A n c, .slice B m d] w fun e w' => e = .returned (.bool (decide (x = y))) ∧ ∃ q, w' = w.drewN q
  roomy : ∀ (w : World) (A : Option Addr) (n c : Nat) (l : List Int), Rd .u8 w A n l → (A = none → c = 0) → n ≤ 100000 →
    Calls P H.rm #[.slice A n c] w fun e w' => ∃ (g cap : Nat), e = .returned (.slice (some ⟨g, 0, none⟩) (n + 1) cap) ∧ Own .u8 H.bt w' w.heap.size (.slice (some ⟨g, 0, none⟩) (n + 1) cap) (l ++ [171]) ∧ Only [] w w'
  stands : ∀ (w : World) (A B : Option Addr) (n cap d : Nat) (l : List Int), Rd .u8 w A (n + 1) (l ++ [171]) → n + 1 ≤ cap → Rd .u8 w B n l → n ≤ 100000 →
    Calls P H.st #[.slice A (n + 1) cap, .slice B n d] w fun e w' => e = .returned (.bool true) ∧ ∃ m, w' = w.drewN m
def isSsl : Value → Bool
  | .slice (some ⟨_, _, some (_ + 1)⟩) _ _ => true
  | _ => false
def memN (q : Nat) : List Nat → Bool
  | [] => false
  | a :: l => match Nat.beq q a with
    | true => true
    | false => memN q l
theorem memN_ok {q : Nat} : ∀ {l : List Nat}, memN q l = true → q ∈ l
  | [], h => by cases h
  | a :: l, h => by
    simp only [memN] at h
    split at h
    · rename_i hb; rw [Nat.of_beq hb]; exact List.mem_cons_self ..
    · exact List.mem_cons_of_mem _ (memN_ok h)
def dOf : Value → Nat
  | .slice _ _ d => d
  | _ => 0
theorem lenS_big [Env] {q d : Nat} (h : lenOf q ≤ 2 ^ 40) (hd : d ≤ 2 ^ 40) : lenS q d ≤ 140737488355328 := by
  unfold lenS
  split <;> omega
def sameS (x y : Value) : Comp Value := bind (contentS x) fun X => bind (contentS y) fun Y => gd (eqCn X Y && (Nat.ble (dOf x) (2 ^ 40) && Nat.ble (dOf y) (2 ^ 40))) (ret (.bool true))
def roomyS (H : Hn) (qs : List Nat) (x : Value) : Comp Value := match x with
  | .slice (some ⟨j, o, some (q + 1)⟩) l d => bind (contentS (.slice (some ⟨j, o, some (q + 1)⟩) l d)) fun X => gd (memN q qs && (Nat.beq (d % 2) 0 && Nat.ble d 20000))
      (bind (nw (.row (.app X [.int .u8 171]) H.bt false)) fun k => ret (.slice (some ⟨k, 0, some (q + 1)⟩) (l + 1) (d + 2)))
  | _ => fail
def standRow (q d : Nat) (Y : Cs) : Ao → Option Value
  | .row (.app X [.int .u8 (.ofNat 171)]) _ _ => match eqCn X Y with
    | true => some (.bool true)
    | false => none
  | _ => none
def standsS (qs : List Nat) (x y : Value) : Comp Value := match x with
  | .slice (some ⟨j, 0, some (q + 1)⟩) l d => match y with
    | .slice (some ⟨j', o', some (q' + 1)⟩) l' d' => gd (memN q qs && (Nat.beq q q' && (Nat.beq d (d' + 2) && (Nat.beq (d' % 2) 0 && Nat.ble d 20000))))
        (bind (contentS (.slice (some ⟨j', o', some (q' + 1)⟩) l' d')) fun Y => bind (rd j) fun ao => ofOpt (standRow q d Y ao))
    | _ => fail
  | _ => fail
def spHelp (H : Hn) (qs : List Nat) : SpF := fun k args =>
  match args with
  | [x] => match Nat.beq k H.rm && isSsl x with
    | true => some (roomyS H qs x)
    | false => none
  | [x, y] => match isSsl x || isSsl y with
    | true => match Nat.beq k H.sm with
      | true => some (sameS x y)
      | false => match Nat.beq k H.st with
        | true => some (standsS qs x y)
        | false => none
    | false => none
  | _ => none
theorem spHelp_some {H : Hn} {qs : List Nat} {k : FuncId} {args : List Value} {m : Comp Value} (h : spHelp H qs k args = some m) :
    (∃ x, args = [x] ∧ k = H.rm ∧ m = roomyS H qs x) ∨ (∃ x y, args = [x, y] ∧ k = H.sm ∧ m = sameS x y) ∨ (∃ x y, args = [x, y] ∧ k = H.st ∧ m = standsS qs x y) := by
  unfold spHelp at h
  split at h
  · rename_i x
    split at h
    · rename_i hb
      simp only [Bool.and_eq_true] at hb
      simp only [Option.some.injEq] at h
      exact .inl ⟨x, rfl, Nat.of_beq hb.1, h.symm⟩
    · cases h
  · rename_i x y
    split at h
    · split at h
      · rename_i hb
        simp only [Option.some.injEq] at h
        exact .inr (.inl ⟨x, y, rfl, Nat.of_beq hb, h.symm⟩)
      · split at h
        · rename_i hb
          simp only [Option.some.injEq] at h
          exact .inr (.inr ⟨x, y, rfl, Nat.of_beq hb, h.symm⟩)
        · cases h
    · cases h
  · cases h
theorem Sim.drewN [Env] {h : Tr} {w : World} (hs : Sim P N β h w) (n : Nat) : Sim P N β h (w.drewN n) := hs.heap rfl
theorem Keep.drewN (w : World) (n : Nat) : Keep N w (w.drewN n) := ⟨rfl, rfl, rfl, Nat.le_refl _, fun _ _ => rfl⟩
theorem sameS_loc {x y : Value} : Local (sameS x y) := Local.bind contentS_loc fun _ => Local.bind contentS_loc fun _ => Local.gd (Local.ret _)
theorem roomyS_loc {H : Hn} {qs : List Nat} {x : Value} : Local (roomyS H qs x) := by
  unfold roomyS
  split
  · exact Local.bind contentS_loc fun _ => Local.gd (Local.bind (Local.nw _) fun _ => Local.ret _)
  · exact Local.fail
theorem standsS_loc {qs : List Nat} {x y : Value} : Local (standsS qs x y) := by
  unfold standsS
  split
  · split
    · exact Local.gd (Local.bind contentS_loc fun _ => Local.bind (Local.rd _) fun _ => Local.ofOpt _)
    · exact Local.fail
  · exact Local.fail
/-- A new object in a world that has it already. -/
theorem Sim.add [Env] {h h' : Tr} {w : World} (hs : Sim P N β h w) {B : Nat} (hB : ∀ i o I, Tr.get dep h i = some o → β i = some I → I.blk < B) {c : Nat} {x : Ao} (hset : Tr.set dep h c (some x) = some h') (hf : β c = none) (I : Im) (hN : N ≤ I.blk) (hI : B ≤ I.blk) (hlt : I.blk < w.heap.size)
    (hx : ∀ β' : Mp, (∀ i I, β i = some I → β' i = some I) → ObR P β' w I x) : ∃ β', Ext c (c + 1) β β' ∧ Sim P N β' h' w ∧ β' c = some I := by
  let β' : Mp := fun i => if i = c then some I else β i
  have hb : ∀ i J, β i = some J → β' i = some J := fun i J hi => by
    show (if i = c then some I else β i) = some J
    rw [if_neg (by rintro rfl; rw [hf] at hi; cases hi)]; exact hi
  refine ⟨β', ⟨hb, fun i hi => ?_⟩, ?_, if_pos rfl⟩
  · by_cases e : i = c
    · omega
    · exact absurd (if_neg e) hi
  · refine hs.upd (Nat.le_refl _) c (some x) (Tr.get_set _ _ _ _ _ hset) hb (fun o he => ?_) (fun j o J hj hjo hJ => rfl)
    cases he
    refine ⟨I, if_pos rfl, hN, hlt, hx β' hb, fun j o' J hj hjo hJ => ?_⟩
    have := hB j o' J hjo hJ
    omega
theorem Sim.below [Env] {h : Tr} {w : World} (hs : Sim P N β h w) : ∀ i o I, Tr.get dep h i = some o → β i = some I → I.blk < w.heap.size := fun i o I hi hI => by
  obtain ⟨I', h1, _, h3, _⟩ := hs.obj i o hi
  rw [hI] at h1; cases h1
  exact h3
theorem lenS_bd [Env] {q d : Nat} (h : lenOf q ≤ 70000) (hd : d ≤ 20000) : lenS q d ≤ 90000 := by
  unfold lenS
  split <;> omega
theorem spHelp_ok [Env] {H : Hn} (hc : HelpC P H) {qs : List Nat} (hq : ∀ q ∈ qs, lenOf q ≤ 70000) : SpOK P (spHelp H qs) := by
  refine ⟨fun k args m hm => ?_, fun k args m hm => ?_, fun k args m hm => ?_⟩
  · rcases spHelp_some hm with ⟨x, _, _, rfl⟩ | ⟨x, y, _, _, rfl⟩ | ⟨x, y, _, _, rfl⟩
    · exact roomyS_loc
    · exact sameS_loc
    · exact standsS_loc
  · rcases spHelp_some hm with ⟨x, _, rfl, _⟩ | ⟨x, y, _, rfl, _⟩ | ⟨x, y, _, rfl, _⟩
    · exact hc.b2
    · exact hc.b1
    · exact hc.b3
  · intro N args' β c h o w he hp hs hN hfr
    rcases spHelp_some hm with ⟨x, rfl, rfl, rfl⟩ | ⟨x, y, rfl, rfl, rfl⟩ | ⟨x, y, rfl, rfl, rfl⟩
    · -- roomy
      obtain ⟨x', rfl, hx⟩ := hp.one
      unfold roomyS at he
      split at he
      rotate_left
      · cases he
      rename_i j off q l d
      obtain ⟨o1, q1, ho1, hq1, rfl⟩ := bind_some he
      obtain ⟨ec, eh, zs, hcont⟩ := contentS_ok ho1 hx hs
      rw [ec, eh] at hq1
      obtain ⟨hb, hq1⟩ := gd_some hq1
      simp only [Bool.and_eq_true] at hb
      have b1 := hq _ (memN_ok hb.1)
      have b2 := Nat.of_beq hb.2.1
      have b3 := Nat.le_of_ble_eq_true hb.2.2
      obtain ⟨o2, q2, ho2, hq2, rfl⟩ := bind_some hq1
      obtain ⟨h', rfl, hset⟩ := nw_some ho2
      simp only [ev.ret, Option.some.injEq] at hq2; subst hq2
      obtain ⟨j', off', q', l', d', I, a', C, e1, rfl, hrd, hXl, _, hβ, hon, hLC, hlL, n, hE⟩ := hcont.form
      cases e1
      have hL := lenS_bd b1 b3
      refine (hc.roomy w (some a') (lenS q d) C zs hrd (by intro hh; cases hh) (by omega)).mono ?_
      rintro e w' ⟨g, cap, rfl, hown, honly⟩
      have hkeep := Only_kept honly
      have hs' := hs.stay hkeep
      have hfc : β c = none := hfr c (Nat.le_refl _) (by simp)
      have hgl := hown.base_le
      have hlen := hown.len
      rcases hown.1.2 with ⟨hv, _⟩ | ⟨g', cap', cur, hv, _, hcur, hle, hmax, hsz, htk⟩
      · cases hv
      have hgg : g' = g := by injection hv with h1; injection h1 with h1; injection h1 with h1; exact h1.symm
      rw [hgg] at hcur
      have hzl : zs.length = lenS q d := hrd.len
      have hbnd : ∀ i o I, Tr.get dep h i = some o → β i = some I → I.blk < w.heap.size := hs.below
      obtain ⟨β', k1, k2, k3⟩ := hs'.add (B := w.heap.size) hbnd hset hfc ⟨g, 0, lenS q d + 1, cap - (lenS q d + 1), 0⟩ (Nat.le_trans hN hgl.1) hgl.1 hgl.2 (fun β' hb' => by
        refine ⟨hcont.ok, zs.map (Value.int .u8) ++ [.int .u8 171], (hcont.pw.mono hb').append (PW.cons (.int .u8 171) (PW.nil _)), by simp [Cs.list, hXl], fun jj v hv => ?_, .inr fun jj hj => ?_, fun _ => ⟨.inr rfl, .inr rfl⟩, (fun hh => by cases hh), .inr ⟨cur, _, _, hcur, rfl, .inl rfl⟩⟩
        · rw [Nat.zero_add]
          have hjl : jj < lenS q d + 1 := by
            have := (List.getElem?_eq_some_iff.1 hv).1
            simpa [hzl] using this
          have := hown.cellD jj hjl
          rw [this]
          have e2 : (zs.map (Value.int .u8) ++ [.int .u8 171]) = (zs ++ [171]).map (Value.int .u8) := by simp
          rw [e2, List.getElem?_map] at hv
          have hjz : jj < (zs ++ [171]).length := by simp [hzl]; omega
          rw [List.getElem?_eq_getElem hjz] at hv
          rw [List.getD_eq_getElem?_getD, List.getElem?_eq_getElem hjz]
          exact hv
        · rw [Nat.zero_add]
          have hcs : cur.size = cap := by
            rw [hsz, Nat.mul_one]
            injection hv with _ _ h3
            exact h3.symm
          have hl2 := hlen.2.1
          have hjc : jj < cur.size := by rw [hcs]; simp only at hj; omega
          exact ⟨by rw [cell_of_row _ _ _ _ _ _ hcur]; simp [hjc], hown.frozen jj⟩)
      refine ⟨_, β', rfl, k1, k2, ?_, Keep.sub hkeep hN⟩
      have hls : lenS q (d + 2) = lenS q d + 1 := lenS_add q d 1 b2
      have := VR.ssl (β := β') (a' := ⟨g, 0, none⟩) 0 q (l + 1) (d + 2) cap k3 (by omega) (by omega) (by simp only; omega) (by omega) ⟨n, hE⟩ (.inl rfl) (by simp only; omega)
      rwa [hls] at this
    · -- same
      obtain ⟨x', y', rfl, hx, hy⟩ := hp.two
      obtain ⟨o1, q1, ho1, hq1, rfl⟩ := bind_some he
      obtain ⟨ec, eh, zs, hcx⟩ := contentS_ok ho1 hx hs
      rw [ec, eh] at hq1
      obtain ⟨o2, q2, ho2, hq2, rfl⟩ := bind_some hq1
      obtain ⟨ec2, eh2, ys, hcy⟩ := contentS_ok ho2 hy hs
      obtain ⟨hb, hq2⟩ := gd_some hq2
      simp only [ev.ret, Option.some.injEq] at hq2; subst hq2
      simp only [Bool.and_eq_true] at hb
      have hl := eqCn_ok hb.1
      have hzy : zs = ys := by
        have h1 := hcx.list
        have h2 := hcy.list
        rw [hl, h2] at h1
        refine (List.map_inj_right (fun a b hab => ?_)).1 h1.symm
        cases hab; rfl
      subst hzy
      obtain ⟨j, off, q, l, d, I, a', C, rfl, rfl, hrd, hXl, hq4, _⟩ := hcx.form
      obtain ⟨j2, off2, q2, l2, d2, I2, a2, C2, rfl, rfl, hrd2, hXl2, hq42, _⟩ := hcy.form
      have f1 : lenS q d ≤ 140737488355328 := lenS_big hq4 (Nat.le_of_ble_eq_true hb.2.1)
      have f2 : lenS q2 d2 ≤ 140737488355328 := lenS_big hq42 (Nat.le_of_ble_eq_true hb.2.2)
      refine (hc.same w _ _ _ _ C C2 zs zs hrd hrd2 f1 f2).mono ?_
      rintro e w' ⟨rfl, m, rfl⟩
      rw [show decide (zs = zs) = true from by simp]
      refine ⟨_, β, rfl, Ext.refl _ _ _, ?_, .bool true, Keep.drewN _ _⟩
      simp only [eh2]
      exact hs.drewN m
    · -- stands
      obtain ⟨x', y', rfl, hx, hy⟩ := hp.two
      unfold standsS at he
      split at he
      rotate_left
      · cases he
      split at he
      rotate_left
      · cases he
      rename_i j q l d _ j' o' q' l' d'
      obtain ⟨hb, he⟩ := gd_some he
      simp only [Bool.and_eq_true] at hb
      have b1 := hq _ (memN_ok hb.1)
      have b2 := Nat.of_beq hb.2.1
      have b3 := Nat.of_beq hb.2.2.1
      have b4 := Nat.of_beq hb.2.2.2.1
      have b5 := Nat.le_of_ble_eq_true hb.2.2.2.2
      subst b2 b3
      obtain ⟨o1, q1, ho1, hq1, rfl⟩ := bind_some he
      obtain ⟨ec, eh, ys, hcy⟩ := contentS_ok ho1 hy hs
      rw [ec, eh] at hq1
      obtain ⟨o2, q2, ho2, hq2, rfl⟩ := bind_some hq1
      obtain ⟨r2, g2⟩ := rd_some ho2
      obtain ⟨v, hv, rfl⟩ := ofOpt_some hq2
      generalize o1.a = Y at hcy hv
      obtain ⟨jj, oo, qq, ll, dd, II, a2, C2, e1, rfl, hrd, hYl, _⟩ := hcy.form
      cases e1
      generalize o2.a = ao at hv g2
      have eh2 : o2.h = h := by rw [r2]
      have ec2 : o2.c = c := by rw [r2]
      unfold standRow at hv
      split at hv
      rotate_left
      · cases hv
      rename_i X te g
      split at hv
      rotate_left
      · cases hv
      rename_i heq
      simp only [Option.some.injEq] at hv; subst hv
      have hl := eqCn_ok heq
      cases hx with
      | @ssl _ I a' _ _ _ _ C hβ k1 k2 k3 k4 k5 k6 =>
        obtain ⟨I', hI, _, hlt, hob⟩ := hs.obj j _ g2
        rw [hβ] at hI; cases hI
        obtain ⟨hok, ws, hpw, hcl, hra, _, _, _⟩ := hob
        have hls : lenS q (d' + 2) = lenS q d' + 1 := lenS_add q d' 1 b4
        have hL := lenS_bd b1 (d := d') (by omega)
        have ha : a' = ⟨I.blk, I.base + 0, none⟩ := by
          rcases k6 with k6 | k6
          · exact k6
          · omega
        subst ha
        have hws : ws = (ys ++ [171]).map (Value.int .u8) := by
          have hX : X.list = Y.list := hl
          simp only [Cs.list] at hpw hcl
          rw [hX] at hpw hcl
          have hpy := hcy.pw
          apply List.ext_getElem?
          intro k
          have hlen : ws.length = ys.length + 1 := by
            have := hpw.1
            have h2 := hpy.1
            simp only [List.length_append, List.length_map, List.length_cons, List.length_nil] at this h2
            omega
          have hyl : Y.list.length = ys.length := by simpa using hpy.1
          rw [List.map_append]
          by_cases hk : k < ys.length
          · rw [List.getElem?_append_left (by simpa using hk)]
            have h3 : ws[k]? = some ws[k] := List.getElem?_eq_getElem (by omega)
            have h4 := hpw.2 k Y.list[k] ws[k] (by rw [List.getElem?_append_left (by omega)]; exact List.getElem?_eq_getElem (by omega)) h3
            have h5 := hpy.2 k Y.list[k] _ (List.getElem?_eq_getElem (by omega)) (List.getElem?_eq_getElem (by simpa using hk))
            have hb1 : byteV Y.list[k] = true := by
              have := hcy.byt
              rw [List.all_eq_true] at this
              exact this _ (List.getElem_mem _)
            obtain ⟨_, _, _, _, e4⟩ := byteV_ok hb1 h4
            obtain ⟨_, _, _, _, e5⟩ := byteV_ok hb1 h5
            rw [h3, List.getElem?_eq_getElem (by simpa using hk), e4, e5]
          · by_cases hk2 : k = ys.length
            · subst hk2
              have h3 : ws[ys.length]? = some (ws[ys.length]'(by omega)) := List.getElem?_eq_getElem (by omega)
              have h4 := hpw.2 ys.length (.int .u8 171) _ (by rw [← hyl]; simp) h3
              rw [h3, h4.int_eq]
              simp
            · rw [List.getElem?_eq_none (by omega), List.getElem?_eq_none (by simp; omega)]
        have hrdx : Rd .u8 w (some ⟨I.blk, I.base + 0, none⟩) (lenS q d' + 1) (ys ++ [171]) := by
          refine ⟨by simp [hrd.len], fun z hz => (Lit.wf_int_iff .u8 z).2 ?_, fun _ => ⟨I.blk, I.base + 0, rfl, fun k hk => ?_⟩⟩
          · rcases List.mem_append.1 hz with hz | hz
            · exact hcy.bytes z hz
            · simp at hz; subst hz; decide
          · have hkl : k < (ys ++ [171]).length := by simp [hrd.len]; omega
            have := hra k (.int .u8 ((ys ++ [171])[k])) (by rw [hws, List.getElem?_map, List.getElem?_eq_getElem hkl]; rfl)
            rw [Nat.add_zero, this, List.getD_eq_getElem?_getD, List.getElem?_eq_getElem hkl]; rfl
        rw [hls]
        refine (hc.stands w _ _ (lenS q d') C C2 ys hrdx (by omega) hrd (by omega)).mono ?_
        rintro e w' ⟨rfl, m, rfl⟩
        refine ⟨_, β, rfl, Ext.refl _ _ _, ?_, .bool true, Keep.drewN _ _⟩
        simp only [eh2]
        exact hs.drewN m
end Go.Proofs.YtpcbpbclcldnmaaGreat.ev
