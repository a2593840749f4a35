/-
  bytes.Equal over rows of known length whose cells are not looked into: known ahead, by its contract and a table. Conditions: that contract.
-/
import Derived.Test.YtpcbpbclcldnmaaGreatEvHp
namespace Go.Proofs.YtpcbpbclcldnmaaGreat.ev
set_option linter.unusedVariables false
set_option linter.unusedSimpArgs false
variable {P : Program} {N : Nat} {β : Mp}
/-- Are two cells alike? By their letters, or by the table. -/
def cellEqT (l : List Ent) (a b : Value) : Option Bool :=
  match sameV a b with
  | true => some true
  | false => match a, b with
    | .int .u8 (.ofNat n), .int .u8 (.ofNat m) => some (Nat.beq n m)
    | a, b => match findBin .eql a b l with
      | some (.bool r) => some r
      | _ => none
def cellsEqT (l : List Ent) : List Value → List Value → Option Bool
  | [], [] => some true
  | a :: x, b :: y => match cellEqT l a b with
    | some true => cellsEqT l x y
    | some false => match Nat.beq x.length y.length with
      | true => some false
      | false => some false
    | none => none
  | _, _ => some false
/-- Both rows' cells, if their lengths are known. -/
def rowOf : Value → Comp (List Value)
  | .slice (some ⟨j, o, none⟩) n _ => bind (rd j) fun ao => ofOpt (cutCells o n ao)
  | .slice (some ⟨j, o, some 0⟩) n _ => bind (rd j) fun ao => ofOpt (cutCells o n ao)
  | .slice none 0 _ => ret []
  | _ => fail
theorem rowOf_loc {x : Value} : Local (rowOf x) := by
  unfold rowOf
  repeat' (first | exact Local.fail | exact Local.ret _ | exact Local.rd _ | exact Local.ofOpt _ | refine Local.bind ?_ (fun _ => ?_) | split)
def beqS (l : List Ent) (x y : Value) : Comp Value := bind (rowOf x) fun a => bind (rowOf y) fun b => gd (a.all byteV && b.all byteV) (bind (ofOpt (cellsEqT l a b)) fun r => ret (.bool r))
def isSlice : Value → Bool
  | .slice _ _ _ => true
  | _ => false
def spBeq (be : FuncId) (l : List Ent) : SpF := fun k args =>
  match args with
  | [x, y] => match Nat.beq k be && (isSlice x && isSlice y) with
    | true => some (beqS l x y)
    | false => none
  | _ => none
def BeqC (P : Program) (be : FuncId) : Prop := hasBody P be ∧ ∀ (w : World) (A B : Option Addr) (n m c d : Nat) (x y : List Int), Rd .u8 w A n x → Rd .u8 w B m y → (∀ z ∈ x, 0 ≤ z ∧ z ≤ 255) → (∀ z ∈ y, 0 ≤ z ∧ z ≤ 255) →
  Calls P be #[.slice A n c, .slice B m d] w fun e w' => e = .returned (.bool (decide (x = y))) ∧ ∃ q, w' = w.drewN q
theorem cellsEqT_ok [Env] {l : List Ent} (hl : ∀ e ∈ l, EntOK P e) : ∀ {a b : List Value} {r : Bool} {x y : List Int}, cellsEqT l a b = some r → a.map real = x.map (Value.int .u8) → b.map real = y.map (Value.int .u8) → decide (x = y) = r
  | [], [], r, x, y, h, hx, hy => by
    simp only [cellsEqT, Option.some.injEq] at h; subst h
    have h1 : x = [] := by simpa using hx.symm
    have h2 : y = [] := by simpa using hy.symm
    rw [h1, h2]; rfl
  | [], b :: l2, r, x, y, h, hx, hy => by
    simp only [cellsEqT, Option.some.injEq] at h; subst h
    have h1 : x = [] := by simpa using hx.symm
    cases y with
    | nil => simp at hy
    | cons z y => rw [h1]; exact decide_eq_false (by simp)
  | a :: l1, [], r, x, y, h, hx, hy => by
    simp only [cellsEqT, Option.some.injEq] at h; subst h
    have h1 : y = [] := by simpa using hy.symm
    cases x with
    | nil => simp at hx
    | cons z x => rw [h1]; exact decide_eq_false (by simp)
  | a :: l1, b :: l2, r, x, y, h, hx, hy => by
    cases x with
    | nil => simp at hx
    | cons u x =>
    cases y with
    | nil => simp at hy
    | cons v y =>
    simp only [List.map_cons, List.cons.injEq] at hx hy
    have key : ∀ q, cellEqT l a b = some q → (q = true → u = v) ∧ (q = false → u ≠ v) := fun q hq => by
      unfold cellEqT at hq
      split at hq
      · rename_i hb
        cases hq
        have := sameV_eq hb
        subst this
        rw [hx.1] at hy
        exact ⟨fun _ => by injection hy.1, fun hh => by cases hh⟩
      · split at hq
        · rename_i n m _
          cases hq
          have h1 : u = (n : Int) := by have := hx.1; simp only [real] at this; injection this with _ this; exact this.symm
          have h2 : v = (m : Int) := by have := hy.1; simp only [real] at this; injection this with _ this; exact this.symm
          refine ⟨fun hh => ?_, fun hh hh2 => ?_⟩
          · rw [h1, h2, Nat.of_beq hh]
          · rw [h1, h2] at hh2
            have : n = m := by omega
            rw [this, Nat.beq_refl] at hh; cases hh
        · split at hq
          · rename_i r' hf
            cases hq
            obtain ⟨_, _, _, he⟩ := hl _ (findBin_ok hf)
            have he := he 5 default
            rw [hx.1, hy.1] at he
            have hrun : (Go.binOp .eql 5 (.int .u8 u) (.int .u8 v)).run P default = .ok (.bool (u == v)) default := by simp [Go.binOp, Op.intCmp]
            rw [hrun] at he
            simp only [real, Result.ok.injEq, Value.bool.injEq, and_true] at he
            subst he
            exact ⟨fun hh => by simpa using hh, fun hh => by simpa using hh⟩
          · cases hq
    simp only [cellsEqT] at h
    split at h
    · rename_i hq
      have := (key _ hq).1 rfl
      subst this
      have ih := cellsEqT_ok hl h hx.2 hy.2
      rw [← ih]
      simp
    · rename_i hq
      have := (key _ hq).2 rfl
      have hr : r = false := by split at h <;> cases h <;> rfl
      rw [hr]
      exact decide_eq_false (by simp [this])
    · cases h
/-- Cells that are bytes, cs they are read. -/
theorem bytesRead [Env] {cs us : List Value} {w : World} {A : Option Addr} {n : Nat} (hb : cs.all byteV = true) (hp : PW β cs us) (hl : cs.length = n) (hc : 0 < n → ∃ b off, A = some ⟨b, off, none⟩ ∧ w.rangeAt b off us) :
    ∃ zs : List Int, Rd .u8 w A n zs ∧ cs.map real = zs.map (Value.int .u8) ∧ ∀ z ∈ zs, 0 ≤ z ∧ z ≤ 255 := by
  have hel : ∀ (k : Nat) (v u : Value), cs[k]? = some v → us[k]? = some u → ∃ z : Int, u = .int .u8 z ∧ 0 ≤ z ∧ z ≤ 255 ∧ u = real v := fun k v u hv hu => by
    rw [List.all_eq_true] at hb
    exact byteV_ok (hb v (List.mem_of_getElem? hv)) (hp.2 k v u hv hu)
  have hmem : ∀ u ∈ us, ∃ z : Int, u = .int .u8 z ∧ 0 ≤ z ∧ z ≤ 255 := fun u hu => by
    obtain ⟨k, hk⟩ := List.getElem?_of_mem hu
    have hk2 : k < cs.length := by rw [hp.1]; exact (List.getElem?_eq_some_iff.1 hk).1
    obtain ⟨z, h1, h2, h3, _⟩ := hel k _ u (List.getElem?_eq_getElem hk2) hk
    exact ⟨z, h1, h2, h3⟩
  have hzus : (us.map intOfV).map (Value.int .u8) = us := by
    rw [List.map_map]
    conv => rhs; rw [← List.map_id us]
    refine List.map_congr_left fun u hu => ?_
    obtain ⟨z, rfl, _⟩ := hmem u hu
    rfl
  have hreal : cs.map real = us := by
    apply List.ext_getElem?
    intro k
    rw [List.getElem?_map]
    by_cases hk : k < cs.length
    · have hk2 : k < us.length := by rw [← hp.1]; exact hk
      obtain ⟨z, _, _, _, h4⟩ := hel k _ _ (List.getElem?_eq_getElem hk) (List.getElem?_eq_getElem hk2)
      rw [List.getElem?_eq_getElem hk, List.getElem?_eq_getElem hk2, h4]; rfl
    · rw [List.getElem?_eq_none (by omega), List.getElem?_eq_none (by rw [← hp.1]; omega)]; rfl
  have hbd : ∀ z ∈ us.map intOfV, 0 ≤ z ∧ z ≤ 255 := fun z hz => by
    obtain ⟨u, hu, rfl⟩ := List.mem_map.1 hz
    obtain ⟨y, rfl, h2, h3⟩ := hmem u hu
    exact ⟨h2, h3⟩
  have hul : us.length = n := by rw [← hp.1]; exact hl
  refine ⟨us.map intOfV, ⟨by rw [List.length_map, hul], fun z hz => (Lit.wf_int_iff .u8 z).2 (hbd z hz), fun hn0 => ?_⟩, by rw [hreal, hzus], hbd⟩
  obtain ⟨b, off, hA, hra⟩ := hc hn0
  refine ⟨b, off, hA, fun k hk => ?_⟩
  have hk2 : k < us.length := by rw [hul]; exact hk
  rw [hra k us[k] (List.getElem?_eq_getElem hk2)]
  obtain ⟨z, hz, _⟩ := hmem us[k] (List.getElem_mem hk2)
  rw [List.getD_eq_getElem?_getD, List.getElem?_map, List.getElem?_eq_getElem hk2, hz]
  rfl
theorem rowOf_ok [Env] {x x' : Value} (hx : VR β x x') {c : Nat} {h : Tr} {w : World} {o : Out (List Value)} (he : rowOf x c h = some o) (hs : Sim P N β h w) (hb : o.a.all byteV = true) :
    o.c = c ∧ o.h = h ∧ ∃ A n C zs, x' = .slice A n C ∧ Rd .u8 w A n zs ∧ o.a.map real = zs.map (Value.int .u8) ∧ ∀ z ∈ zs, 0 ≤ z ∧ z ≤ 255 := by
  have row : ∀ {j off n : Nat} {I : Im} {a' : Addr} {C : Nat}, bind (rd j) (fun ao => ofOpt (cutCells off n ao)) c h = some o → β j = some I → n ≤ C → (a' = ⟨I.blk, I.base + off, none⟩ ∨ C = 0) → x' = .slice (some a') n C →
      o.c = c ∧ o.h = h ∧ ∃ A n C zs, x' = .slice A n C ∧ Rd .u8 w A n zs ∧ o.a.map real = zs.map (Value.int .u8) ∧ ∀ z ∈ zs, 0 ≤ z ∧ z ≤ 255 := fun {j off n I a' C} he hβ hnC ha hx' => by
    obtain ⟨o1, q1, ho1, hq1, rfl⟩ := bind_some he
    obtain ⟨r1, g1⟩ := rd_some ho1
    obtain ⟨v, hv, rfl⟩ := ofOpt_some hq1
    refine ⟨by rw [r1], by rw [r1], ?_⟩
    generalize o1.a = ao at hv g1
    obtain ⟨I', hI, _, hlt, hob⟩ := hs.obj j ao g1
    rw [hβ] at hI; cases hI
    cases ao with
    | map es clk => cases hv
    | iter q0 p0 => cases hv
    | mapIt q0 q1 q2 q3 => cases hv
    | row D te g =>
      obtain ⟨hok, ws, hpw, hcl, hra, _, _, _⟩ := hob
      simp only [cutCells] at hv
      split at hv
      · rename_i hbq
        have hbq := Nat.of_beq hbq
        have hs0 := Cs.sub_ok D _ _ hok hbq
        rw [hs0] at hbq hv
        simp only [Option.some.injEq] at hv; subst hv
        obtain ⟨zs, h1, h2, h3⟩ := bytesRead (w := w) (A := some a') (n := n) hb ((hpw.drop off).take n) hbq (fun hn0 => by
          rcases ha with rfl | ha
          · exact ⟨I.blk, I.base + off, rfl, range_sub hra⟩
          · omega)
        exact ⟨some a', n, C, zs, hx', h1, h2, h3⟩
      · cases hv
  cases hx with
  | @sl i I a' off n C C' hβ h1 h2 h3 h4 => exact row he hβ (by omega) h4 rfl
  | @ksl i I a' off n C C' hβ h1 h2 h3 => exact row he hβ h1 h3 rfl
  | nils n C =>
    cases n with
    | succ n => simp [rowOf, fail] at he
    | zero =>
      simp only [rowOf, ev.ret, Option.some.injEq] at he; subst he
      exact ⟨rfl, rfl, none, 0, C, [], rfl, Rd.nil _ _ _, rfl, by simp⟩
  | _ => simp [rowOf, fail] at he
theorem spBeq_ok [Env] {be : FuncId} (hc : BeqC P be) {l : List Ent} (hl : ∀ e ∈ l, EntOK P e) : SpOK P (spBeq be l) := by
  have key : ∀ k args m, spBeq be l k args = some m → ∃ x y, args = [x, y] ∧ k = be ∧ m = beqS l x y := fun k args m hm => by
    unfold spBeq at hm
    split at hm
    · split at hm
      · rename_i hb
        simp only [Bool.and_eq_true] at hb
        simp only [Option.some.injEq] at hm
        exact ⟨_, _, rfl, Nat.of_beq hb.1, hm.symm⟩
      · cases hm
    · cases hm
  refine ⟨fun k args m hm => ?_, fun k args m hm => ?_, fun k args m hm => ?_⟩
  · obtain ⟨x, y, _, _, rfl⟩ := key k args m hm
    exact Local.bind rowOf_loc fun _ => Local.bind rowOf_loc fun _ => Local.gd (Local.bind (Local.ofOpt _) fun _ => Local.ret _)
  · obtain ⟨x, y, _, rfl, _⟩ := key k args m hm
    exact hc.1
  · intro N args' β c h o w he hp hs hN hfr
    obtain ⟨x, y, rfl, rfl, rfl⟩ := key k args m hm
    obtain ⟨x', y', rfl, hx, hy⟩ := hp.two
    obtain ⟨o1, q1, ho1, hq1, rfl⟩ := bind_some he
    obtain ⟨o2, q2, ho2, hq2, rfl⟩ := bind_some hq1
    obtain ⟨hb, hq2⟩ := gd_some hq2
    simp only [Bool.and_eq_true] at hb
    obtain ⟨ec, eh, A, n, C, zs, rfl, hrd, hz, hzb⟩ := rowOf_ok hx ho1 hs hb.1
    rw [ec, eh] at ho2
    obtain ⟨ec2, eh2, B, n2, C2, ys, rfl, hrd2, hy2, hyb⟩ := rowOf_ok hy ho2 hs hb.2
    obtain ⟨o3, q3, ho3, hq3, rfl⟩ := bind_some hq2
    obtain ⟨r, hr, rfl⟩ := ofOpt_some ho3
    simp only [ev.ret, Option.some.injEq] at hq3; subst hq3
    have hd := cellsEqT_ok hl hr hz hy2
    refine (hc.2 w A B n n2 C C2 zs ys hrd hrd2 hzb hyb).mono ?_
    rintro e w' ⟨rfl, m, rfl⟩
    rw [hd]
    refine ⟨_, β, rfl, Ext.refl _ _ _, ?_, .bool r, Keep.drewN _ _⟩
    simp only [eh2]
    exact hs.drewN m
end Go.Proofs.YtpcbpbclcldnmaaGreat.ev
