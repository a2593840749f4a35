/-
  Chapter 21 (name): Pack of any text, by a walk of its text. Conditions: none but those typed.
-/
import Derived.Test.YtfoecnlbiaiibaaNamL
import Derived.Test.YtfoecnlbiaiibaaWrt
import Derived.Test.YtfoecnlbiaiibaaOrm
namespace Go.Proofs.Ytfoecnlbiaiibaa.nam
set_option linter.unusedVariables false
set_option linter.unusedSimpArgs false
open Go.ChangeShapes Go.WideShapes Go.ChangeAt Go.RowKit Go.IntWalk Go.Lib
set_option maxHeartbeats 1000000 in
theorem byte2 (w : World) (g base : Nat) (v : Value) (l : List Int) (x : Int) (h : wrt.Wr w g base v l) (hl : l.length ≤ 35184372088832) :
    Calls Try.prog 25 #[.pointer (some ⟨g, 0, none⟩), .int .i64 x] w fun e w' => e = .returned (.tuple #[]) ∧ Below base w w' ∧ ∃ v', wrt.Wr w' g base v' (l ++ [x % 256]) ∧ Only (g :: v.ownBlock.toList) w w' := by
  have c0 := h.ob.cell 0
  have f0 := h.ob.frozen 0
  have hlow := h.low
  have hsz : base ≤ w.heap.size := Nat.le_of_lt (Nat.lt_of_le_of_lt h.low h.ob.lt)
  have H := hid h; clear h
  have hk : IntKind.u64.wrap x % 256 = x % 256 := by rw [IntKind.wrap_u64]; omega
  have HWF : Hid (∀ z ∈ [x % 256], (Lit.int .u8 z).wf = true) := hid (by intro z hz; simp at hz; apply (Lit.wf_int_iff .u8 z).2; show 0 ≤ z ∧ z ≤ 255; omega)
  go_enter Try.func25, Try.ntmps25
  go_wp2_with (at_builtin; refine wpList_app _ rfl (.tmp 10) (.tmp 14) _ rfl wrt.elemB base v l rfl ?c1 (some ⟨w.heap.size, 0, none⟩) 1 1 [x % 256] rfl ?c2 ?c3 ?c4 ?c5 ?c6 ?_)
  case c1 => exact H.out.own.alloc _
  case c2 => exact (Own.lit .u8 5 w base [x % 256] _ 1 rfl rfl hsz (by simp [maxLen]) HWF.out).rd
  case c3 => simp
  case c4 => omega
  case c5 => unfold maxLen; omega
  case c6 => simp; omega
  intro v1 w1 hv hg hb
  have V1 := hid hv
  have HOO : Hid (Only (g :: v.ownBlock.toList) w w1) := hid (((Only.refl _ w).alloc _).of_grown hg (fun k hk => .inl (by rw [hk]; simp)))
  have hB : Below base w w1 := ((Below.refl base w).alloc hsz _).grown hg (by simp; omega) (fun k hk => (H.out.own.lt k hk).1)
  have hO : Ob w1 g 53 #[v] := by
    have h1 := H.out.ob.alloc (.cells (([x % 256] : List Int).map (Value.int .u8)).toArray 5)
    exact (hg.block g h1.lt (fun e => H.out.apart e.symm)).trans h1
  obtain ⟨A1, cap1, ev1, _, _, _, _⟩ := V1.out.slice
  simp only [List.length_append, List.length_cons, List.length_nil, Nat.zero_add, Nat.reduceAdd] at ev1
  subst ev1
  have c1 := hO.cell 0
  have f1 := hO.frozen 0
  have HB := hid hB; have HO := hid hO
  clear hv hg hb hB hO c0 f0
  go_wp2
  refine bodyPost_end (results_none rfl _ _ _) rfl ?_
  refine ⟨rfl, HB.out.setCell hlow _, _, ⟨HO.out.set 0 _, V1.out.only ((Only.refl [g] w1).setCell (p := ⟨g, 0, none⟩) (Or.inl (by simp)) _) ?_, hlow⟩, HOO.out.setCell (p := ⟨g, 0, none⟩) (Or.inl (by simp)) _⟩
  intro k hk hm
  obtain rfl : k = g := by simpa using hm
  exact wrt.own_ne HO.out V1.out hk

/-- Each label behind its length. -/
def pk : List (List Int) → List Int
  | [] => []
  | l :: r => (l.length : Int) :: (l ++ pk r)
theorem pk_app (a b : List (List Int)) : pk (a ++ b) = pk a ++ pk b := by
  induction a with
  | nil => rfl
  | cons x a ih => show (x.length : Int) :: (x ++ pk (a ++ b)) = (x.length : Int) :: (x ++ pk a) ++ pk b; rw [ih]; simp
theorem pk_one (l : List Int) : pk [l] = [(l.length : Int)] ++ l := by show (l.length : Int) :: (l ++ []) = _; simp
def okL (l : List Int) : Prop := 1 ≤ l.length ∧ l.length ≤ 63
instance (l : List Int) : Decidable (okL l) := inferInstanceAs (Decidable (_ ∧ _))
/-- P21.1. -/
@[irreducible] def packs (L : List Int) : List Int × Int := if 253 < L.length then ([], 9) else if ∀ l ∈ labsOf L, okL l then (pk (labsOf L) ++ [0], 0) else ([], 9)
theorem packs_long {L : List Int} (h : 253 < L.length) : packs L = ([], 9) := by unfold packs; rw [if_pos h]
theorem packs_bad {L l : List Int} (h : l ∈ labsOf L) (h2 : ¬ okL l) : packs L = ([], 9) := by
  unfold packs
  split
  · rfl
  · rw [if_neg (fun e => h2 (e l h))]
theorem packs_ok {L : List Int} (h : ¬ 253 < L.length) (h2 : ∀ l ∈ labsOf L, okL l) : packs L = (pk (labsOf L) ++ [0], 0) := by unfold packs; rw [if_neg h, if_pos h2]
theorem cutF_mem : ∀ (L cur m : List Int), m ∈ cutF cur L → ∀ x ∈ m, x ∈ cur ∨ x ∈ L
  | [], cur, m, hm, x, hx => by
    rw [cutF_nil] at hm
    obtain rfl : m = cur := by simpa using hm
    exact .inl hx
  | y :: L, cur, m, hm, x, hx => by
    by_cases h : y = 46
    · subst h
      rw [cutF_dot] at hm
      rcases List.mem_cons.1 hm with rfl | h2
      · exact .inl hx
      · rcases cutF_mem L [] m h2 x hx with h3 | h3
        · cases h3
        · exact .inr (by simp [h3])
    · rw [cutF_not _ _ h] at hm
      rcases cutF_mem L _ m hm x hx with h3 | h3
      · rcases List.mem_append.1 h3 with h4 | h4
        · exact .inl h4
        · exact .inr (by rw [show x = y from by simpa using h4]; simp)
      · exact .inr (by simp [h3])
theorem labs_mem {L m : List Int} (hm : m ∈ labsOf L) {x : Int} (hx : x ∈ m) : x ∈ L := by
  by_cases h : L = []
  · subst h; rw [labsOf_nil] at hm; cases hm
  · rw [labsOf_ne h] at hm
    rcases cutF_mem L [] m hm x hx with h | h
    · cases h
    · exact h
theorem chs_bd (s : ByteArray) (x : Int) (h : x ∈ chs s) : 0 ≤ x ∧ x ≤ 255 := by
  unfold chs at h
  obtain ⟨b, hb, rfl⟩ := List.mem_map.1 h
  have := b.toNat_lt
  omega
theorem cutF_size : ∀ (L cur : List Int), (cutF cur L).length ≤ L.length + 1
  | [], cur => by rw [cutF_nil]; simp
  | y :: L, cur => by
    by_cases h : y = 46
    · subst h; rw [cutF_dot]; have := cutF_size L []; simp; omega
    · rw [cutF_not _ _ h]; have := cutF_size L (cur ++ [y]); simp; omega
theorem labs_size (L : List Int) : (labsOf L).length ≤ L.length + 1 := by
  by_cases h : L = []
  · subst h; rw [labsOf_nil]; simp
  · rw [labsOf_ne h]; exact cutF_size L []
theorem pk_len (ls : List (List Int)) (h : ∀ l ∈ ls, okL l) : (pk ls).length ≤ 64 * ls.length := by
  induction ls with
  | nil => simp [pk]
  | cons l r ih =>
    have h1 := ih (fun x hx => h x (by simp [hx]))
    have h2 := (h l (by simp)).2
    show ((l.length : Int) :: (l ++ pk r)).length ≤ _
    simp; omega
theorem BR.rd {w : World} {g : Nat} {e : TypeId} {l r : List Int} (h : BR w g e (l ++ r)) (hb : ∀ x ∈ l, 0 ≤ x ∧ x ≤ 255) : Rd .u8 w (some ⟨g, 0, none⟩) l.length l :=
  ⟨rfl, fun x hx => (Lit.wf_int_iff .u8 x).2 (hb x hx), fun _ => ⟨g, 0, rfl, fun j hj => by
    rw [Nat.zero_add, h.cell j (by rw [List.length_append]; omega), gd_app _ _ _ hj]⟩⟩
/-- Rows of unlike types lie in unlike blocks. -/
theorem own_unlike {w : World} {e1 e2 : TypeId} (hne : e1 ≠ e2) {b1 b2 sz1 sz2 n1 n2 : Nat} {v1 v2 : Value} {x1 x2 : List Value} (h1 : w.ownsRow b1 e1 sz1 v1 n1 x1) (h2 : w.ownsRow b2 e2 sz2 v2 n2 x2) (g : Nat) (g1 : v1.ownBlock = some g) : v2.ownBlock ≠ some g := by
  intro g2
  rcases h1.2 with ⟨hv, _⟩ | ⟨p, cap, cur, hv, _, hh, _⟩
  · rw [hv] at g1; cases g1
  · rcases h2.2 with ⟨hv2, _⟩ | ⟨p2, cap2, cur2, hv2, _, hh2, _⟩
    · rw [hv2] at g2; cases g2
    · rw [hv] at g1; rw [hv2] at g2
      have q1 : p = g := by simpa [Value.ownBlock] using g1
      have q2 : p2 = g := by simpa [Value.ownBlock] using g2
      subst q1 q2
      rw [hh] at hh2
      injection hh2 with hh2
      injection hh2 with _ he _
      exact hne he
theorem row_at {w : World} {base : Nat} {e : TypeId} {n c : Nat} {A : Option Addr} {xs : List Value} (h : w.ownsRow base e 1 (.slice A n c) n xs) (h1 : ∀ u ∈ xs, u.oneCell' = true) (hn : 0 < n) : ∃ b, A = some ⟨b, 0, none⟩ ∧ base ≤ b ∧ ∀ j u, xs[j]? = some u → w.cell? ⟨b, j, none⟩ = some u := by
  obtain ⟨A2, c2, e2, _, _, _, hr, hb, _⟩ := RdS.of_own h h1
  injection e2 with e2 _ e3
  subst e2 e3
  obtain ⟨b, off, rfl, _, hc⟩ := hr.cells hn
  obtain ⟨rfl, ho⟩ := hb b off rfl
  exact ⟨b, rfl, (own_lt h b ho).1, fun j u hj => by have := hc j u hj; rwa [Nat.zero_add] at this⟩
theorem strs_at (ls : List (List Int)) (k : Nat) (h : k < ls.length) : (strs ls)[k]? = some (.string (strOfNums (ls.getD k []))) := by
  unfold strs
  rw [List.getElem?_map, List.getD_eq_getElem?_getD, List.getElem?_eq_getElem h]
  rfl
theorem take_next (ls : List (List Int)) (k : Nat) (h : k < ls.length) : ls.take (k + 1) = ls.take k ++ [ls.getD k []] := by
  rw [List.take_add_one, List.getD_eq_getElem?_getD, List.getElem?_eq_getElem h]
  rfl
theorem meas_idx {n k : Nat} (h : k < n) : n - (RowKit.intOf (.int .i64 ((k : Int) + 1))).toNat < n - (RowKit.intOf (.int .i64 (k : Int))).toNat := by
  show n - ((k : Int) + 1).toNat < n - (k : Int).toNat
  omega
theorem getD_mem (ls : List (List Int)) (k : Nat) (h : k < ls.length) : ls.getD k [] ∈ ls := by
  rw [List.getD_eq_getElem?_getD, List.getElem?_eq_getElem h]
  exact List.getElem_mem h
set_option maxHeartbeats 2000000 in
set_option maxRecDepth 100000 in
theorem packL (w : World) (s : ByteArray) (hs : s.size ≤ maxLen) : Calls Try.prog 10 #[.string s] w fun x w' => ∃ v, x = .returned (.tuple #[v, .int .i64 (packs (chs s)).2]) ∧ Own .u8 5 w' w.heap.size v (packs (chs s)).1 ∧ Only [] w w' := by
  have hL := chs_len s
  by_cases h0 : 253 < s.size
  · rw [packs_long (by rw [hL]; exact h0)]
    have h0z : (253 : Int) < (s.size : Int) := by omega
    go_enter Try.func10, Try.ntmps10
    go_wp2_with fail
    go_ret2
    exact ⟨_, rfl, Own.nil _ _ _ _, Only.refl _ _⟩
  · have h0z : ¬ (253 : Int) < (s.size : Int) := by omega
    obtain ⟨W1, hW1⟩ : ∃ W1, w.alloc (.cells #[.slice none 0 0] 53) = W1 := ⟨_, rfl⟩
    have HW1 := hid hW1
    have B1 : Hid (Only [] w W1) := hid (by rw [← hW1]; exact (Only.refl [] w).alloc _)
    have S1 : W1.heap.size = w.heap.size + 1 := by rw [← hW1]; simp
    have R1 : Hid (wrt.Wr W1 w.heap.size w.heap.size (.slice none 0 0) []) := hid ⟨by rw [← hW1]; exact Ob.new w _ _, Own.nil _ _ _ _, Nat.le_refl _⟩
    have hbd : Hid (∀ m ∈ labsOf (chs s), ∀ x ∈ m, 0 ≤ x ∧ x ≤ 255) := hid (fun m hm x hx => chs_bd s x (labs_mem hm hx))
    have hls : (labsOf (chs s)).length ≤ 254 := by have := labs_size (chs s); omega
    have HP : Hid (packs (chs s) = if ∀ l ∈ labsOf (chs s), okL l then (pk (labsOf (chs s)) ++ [0], 0) else ([], 9)) := hid (by unfold packs; rw [if_neg (by omega)])
    obtain ⟨ls, hls2⟩ : ∃ ls, labsOf (chs s) = ls := ⟨_, rfl⟩
    rw [hls2] at hbd hls HP
    have HLs := hid hls2
    obtain ⟨⟨P1, P2⟩, hP⟩ : ∃ P, packs (chs s) = P := ⟨_, rfl⟩
    rw [hP] at HP ⊢
    obtain ⟨n, hn⟩ : ∃ n, ls.length = n := ⟨_, rfl⟩
    have HN := hid hn
    rw [hn] at hls
    clear hls2 hP hn
    go_enter Try.func10, Try.ntmps10
    go_wp2_with fail
    refine (labelsL W1 s (by omega)).mono ?_
    rintro x w2 ⟨v, rfl, hv, o2⟩
    rw [S1] at hv
    rw [HLs.out, HN.out] at hv
    have R2 := hid (R1.out.only_nil o2)
    have B2 := hid (B1.out.trans o2)
    have V2 := hid hv
    have hsz := B2.out.size
    obtain ⟨A, c, rfl, hnc, hcm, hc0, hrd, hblk, hA⟩ := RdS.of_own hv (strs_one ls)
    have HA := hid hA
    have Hc := hid hc0
    clear hv o2 hW1 hrd hblk hA hc0
    go_wp2_with fail
    go_loopw [6, 13] (fun v6 v13 wr => ∃ (k : Nat) (vw : Value), v13 = .int .i64 k ∧ k ≤ n ∧ Hid (wrt.Wr wr w.heap.size w.heap.size vw (pk (ls.take k))) ∧ Hid (∀ l ∈ ls.take k, okL l) ∧ Hid (wr.ownsRow (w.heap.size + 1) 9 1 (.slice A n c) n (strs ls)) ∧ Hid (Only [] w wr)) (fun _ v13 _ => n - (RowKit.intOf v13).toNat)
    case atStart => exact ⟨0, _, rfl, by omega, R2, hid (by simp), V2, B2⟩
    case round =>
      obtain ⟨k, vw, rfl, hk, HW, HK, HV, HB⟩ := hrel
      clear R2 V2 B2
      by_cases hlt : k < n
      · have hltz : (k : Int) < (n : Int) := by omega
        have hkl : k < ls.length := by rw [HN.out]; exact hlt
        obtain ⟨b, rfl, hbb, hcell⟩ := row_at HV.out (strs_one ls) (by omega)
        have q0 := hcell k _ (strs_at ls k hkl)
        clear hcell
        have HMem := hid (getD_mem ls k hkl)
        have HTk := hid (take_next ls k hkl)
        obtain ⟨l, hl⟩ : ∃ l, ls.getD k [] = l := ⟨_, rfl⟩
        rw [hl] at q0 HMem HTk
        clear hl
        have HLb := hid (hbd.out l HMem.out)
        obtain ⟨m, hm⟩ : ∃ m, l.length = m := ⟨_, rfl⟩
        obtain ⟨t, ht⟩ : ∃ t, strOfNums l = t := ⟨_, rfl⟩
        have hts : t.size = m := by rw [← ht, strOf_size, hm]
        have HCt : Hid (chs t = l) := hid (by rw [← ht]; exact chs_nums l HLb.out)
        have HM := hid hm
        rw [ht] at q0
        clear hm ht
        have hpl := pk_len (ls.take k) HK.out
        have htk : (ls.take k).length ≤ k := by rw [List.length_take]; omega
        by_cases ok : okL l
        · have okm : 1 ≤ m ∧ m ≤ 63 := by unfold okL at ok; rw [HM.out] at ok; exact ok
          have ok1 : ¬ (m : Int) < 1 := by omega
          have ok2 : ¬ (63 : Int) < (m : Int) := by omega
          have HOk := hid ok
          clear ok
          go_wp2_with fail
          refine (byte2 wr w.heap.size w.heap.size vw (pk (ls.take k)) (m : Int) HW.out (by omega)).mono ?_
          rintro x w3 ⟨rfl, _, v3, hw3, o3⟩
          have W3 := hid hw3
          have B3 : Hid (Only [] w w3) := hid (HB.out.fresh o3 (fun i hi => .inr (by
            rcases List.mem_cons.1 hi with rfl | h
            · exact Nat.le_refl _
            · exact (HW.out.own.lt i (by simpa using h)).1)))
          have V3 : Hid (w3.ownsRow (w.heap.size + 1) 9 1 (.slice (some ⟨b, 0, none⟩) n c) n (strs ls)) := hid (own_only HV.out o3 (fun i hi hm => by
            have hib : i = b := by simpa [Value.ownBlock] using hi.symm
            subst hib
            rcases List.mem_cons.1 hm with h | h
            · omega
            · exact own_unlike (by decide) HV.out HW.out.own.1 i hi (by simpa using h)))
          clear hw3 o3 q0
          obtain ⟨cap, r, W4, hcv, OB, QB, hcap⟩ := conv_of w3 9 22 5 t Try.underlying9 Try.underlying22 Try.underlying5
          rw [hts] at hcv hcap
          rw [HCt.out] at OB
          have HRd := hid (BR.rd OB.out HLb.out)
          rw [HM.out] at HRd
          have W4h := hid (W3.out.only_nil QB.out)
          have B4 := hid (B3.out.trans QB.out)
          have V4 := hid (own_only_nil V3.out QB.out)
          go_wp2_with fail
          refine (wrt.raw2 W4 w.heap.size w.heap.size v3 (pk (ls.take k) ++ [(m : Int) % 256]) _ m cap l W4h.out (by rw [List.length_append]; simp; omega) HRd.out (by intro e; cases e) (by omega)).mono ?_
          rintro x w5 ⟨rfl, _, v5, hw5, _, o5⟩
          clear hcv
          have W5 : Hid (wrt.Wr w5 w.heap.size w.heap.size v5 (pk (ls.take (k + 1)))) := hid (by
            rw [HTk.out, pk_app, pk_one, HM.out, show (m : Int) = (m : Int) % 256 from by omega]
            simpa using hw5)
          have B5 : Hid (Only [] w w5) := hid (B4.out.fresh o5 (fun i hi => .inr (by
            rcases List.mem_cons.1 hi with rfl | h
            · exact Nat.le_refl _
            · exact (W4h.out.own.lt i (by simpa using h)).1)))
          have V5 : Hid (w5.ownsRow (w.heap.size + 1) 9 1 (.slice (some ⟨b, 0, none⟩) n c) n (strs ls)) := hid (own_only V4.out o5 (fun i hi hm => by
            have hib : i = b := by simpa [Value.ownBlock] using hi.symm
            subst hib
            rcases List.mem_cons.1 hm with h | h
            · omega
            · exact own_unlike (by decide) V4.out W4h.out.own.1 i hi (by simpa using h)))
          have HK5 : Hid (∀ x ∈ ls.take (k + 1), okL x) := hid (fun x hx => by
            rw [HTk.out] at hx
            rcases List.mem_append.1 hx with h | h
            · exact HK.out x h
            · obtain rfl : x = l := by simpa using h
              exact HOk.out)
          clear hw5 o5
          go_wp2_with fail
          go_roundw
          case measure => exact meas_idx hlt
          case rel => exact ⟨k + 1, v5, by go_num, by omega, W5, HK5, V5, B5⟩
        · obtain ⟨rfl, rfl⟩ : P1 = [] ∧ P2 = 9 := by
            have h9 := HP.out
            rw [if_neg (fun e => ok (e l HMem.out))] at h9
            simpa using h9
          by_cases ok1 : (m : Int) < 1
          · go_wp2_with fail
            try rw [Exit.noGoto_ret]
            go_ret2
            exact ⟨_, rfl, Own.nil _ _ _ _, HB.out⟩
          · have ok2 : (63 : Int) < (m : Int) := by unfold okL at ok; rw [HM.out] at ok; omega
            go_wp2_with fail
            try rw [Exit.noGoto_ret]
            go_ret2
            exact ⟨_, rfl, Own.nil _ _ _ _, HB.out⟩
      · have hltz : ¬ (k : Int) < (n : Int) := by omega
        obtain rfl : k = n := by omega
        have hfull : ls.take k = ls := by rw [← HN.out]; exact List.take_length
        rw [hfull] at HW HK
        have hpl := pk_len ls HK.out
        rw [HN.out] at hpl
        obtain ⟨rfl, rfl⟩ : P1 = pk ls ++ [0] ∧ P2 = 0 := by
          have h9 := HP.out
          rw [if_pos HK.out] at h9
          simpa using h9
        clear hfull
        go_wp2_with fail
        refine (byte2 wr w.heap.size w.heap.size vw (pk ls) 0 HW.out (by omega)).mono ?_
        rintro x w3 ⟨rfl, _, v3, hw3, o3⟩
        have W3 := hid hw3
        have B3 : Hid (Only [] w w3) := hid (HB.out.fresh o3 (fun i hi => .inr (by
          rcases List.mem_cons.1 hi with rfl | h
          · exact Nat.le_refl _
          · exact (HW.out.own.lt i (by simpa using h)).1)))
        clear hw3 o3
        go_wp2_with fail
        refine (wrt.bytes1 w3 w.heap.size w.heap.size v3 (pk ls ++ [0 % 256]) W3.out (by rw [List.length_append]; simp; omega)).mono ?_
        rintro x w4 ⟨v4, rfl, hv4, o4⟩
        have B4 := hid (B3.out.trans o4)
        have V4 : Hid (Own .u8 5 w4 w.heap.size v4 (pk ls ++ [0])) := hid (hv4.mono_base B3.out.size)
        clear hv4 o4
        go_wp2_with fail
        go_ret2
        exact ⟨_, rfl, V4.out, B4.out⟩
end Go.Proofs.Ytfoecnlbiaiibaa.nam
