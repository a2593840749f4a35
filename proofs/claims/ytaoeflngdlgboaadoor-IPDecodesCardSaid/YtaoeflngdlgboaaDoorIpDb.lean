/-
  Chapter 6 (ipv4): what the document reads of any bytes, by a walk of the text. Conditions: none but those typed.
-/
import Derived.Test.YtaoeflngdlgboaaDoorIpDa
import Derived.Test.YtaoeflngdlgboaaDoorRgt
import Derived.Test.YtaoeflngdlgboaaDoorCpy
namespace Go.Proofs.YtaoeflngdlgboaaDoor.ip
set_option linter.unusedVariables false
set_option linter.unusedSimpArgs false
open Go.ChangeShapes Go.WideShapes Go.ChangeAt Go.RowKit Go.IntWalk Go.Lib
theorem ne_blk {v : Value} {g h W : Nat} (hb : v.ownBlock = some g ∨ v.ownBlock = some W) (hne : g ≠ h) (hlt : h < W) : v.ownBlock ≠ some h := by
  intro e
  rcases hb with h1 | h1
  · rw [h1] at e; exact hne (Option.some.inj e)
  · rw [h1] at e; have := Option.some.inj e; omega
theorem opStoreOb {P : Program} {o : Oper} {a : Act} {w : World} {K : Act → World → Prop} {Q : Exit → Act → World → Prop} (hgd : o.guard = none) (ty : TypeId) (x y : Operand) (ho : o.op = .store ty x y)
    (g : Nat) (vs : Array Value) (hx : a.eval x = .pointer (some ⟨g, 0, none⟩)) (hy : a.eval y = .agg vs) (cs : Array Value) (t : TypeId) (hb : Ob w g t cs)
    (hs : vs.size = cs.size) (hi : (P.info? ty).map (·.size) = some vs.size) (h1 : vs.all (·.oneCell') = true)
    (h : ∀ W, W = w.setCells g 0 vs.toList → K (a.put o.dst undef) W) : Oper.wp P o a w K Q :=
  wp_store_mid ty x y ho g 0 vs hx hy (hb.there hs) hi h1 (h _ rfl)
def tbD : List rgn.Tb := [⟨0, 77, 1⟩, ⟨1, 78, 75557863725914323419136⟩, ⟨2, 79, 151115727451828646838272⟩, ⟨4, 80, 302231454903657293676544⟩, ⟨0, 81, 1⟩, ⟨16, 82, 1208925819614629174706176⟩, ⟨0, 83, 128⟩, ⟨64, 84, 4835703278458516698824704⟩, ⟨128, 85, 9671406556917033397649408⟩, ⟨0, 86, 128⟩, ⟨512, 87, 38685626227668133590597632⟩, ⟨1024, 88, 77371252455336267181195264⟩, ⟨0, 89, 256⟩, ⟨0, 90, 1⟩, ⟨8192, 91, 618970019642690137449562112⟩, ⟨16384, 92, 1237940039285380274899124224⟩, ⟨32768, 93, 2475880078570760549798248448⟩, ⟨0, 94, 1⟩, ⟨131072, 95, 9903520314283042199192993792⟩, ⟨262144, 96, 19807040628566084398385987584⟩, ⟨524288, 97, 39614081257132168796771975168⟩, ⟨0, 98, 1⟩, ⟨2097184, 99, 158456325028528675187087900672⟩, ⟨0, 100, 1⟩, ⟨12582912, 101, 633825300114114700748351602688⟩, ⟨0, 102, 0⟩, ⟨0, 103, 1⟩, ⟨0, 104, 32⟩, ⟨201326592, 105, 15211807202738752817960438464512⟩, ⟨318767104, 106, 22817710804108129226940657696768⟩, ⟨0, 107, 0⟩, ⟨0, 108, 1⟩, ⟨0, 109, 32⟩, ⟨0, 110, 64⟩, ⟨15032385536, 111, 1135814937804493543741046072016896⟩, ⟨18790481920, 112, 1379203853048313588828413087449088⟩, ⟨34918701352, 113, 2638382478240316242611949505871872⟩, ⟨137438953471, 0, 5192296858534827628530496329220100⟩, ⟨274877906943, 4, 0⟩]
set_option maxRecDepth 100000 in
set_option maxHeartbeats 8000000 in
theorem rOK (w : World) (b off n c : Nat) (x0 p q : Int) (hh tt : Nat) (l : List Int) (hl : Rd .u8 w (some ⟨b, off, none⟩) n l) (h20 : 20 ≤ n) (hn : n ≤ 70000) (hnc : n ≤ c) (hcm : c ≤ maxLen) (hbb : b < w.heap.size)
    (c0 : ((w.alloc (.cells #[.int .i64 0, .int .i64 0, .bool false, .bool false, .int .i64 0, .int .i64 0, .int .i64 0, .int .u32 0, .int .u32 0, .slice none 0 0, .slice none 0 0] 26)).alloc (.cells #[.int .i64 0, .int .i64 0, .bool false, .bool false, .int .i64 0, .int .i64 0, .int .i64 0, .int .u32 0, .int .u32 0, .slice none 0 0, .slice none 0 0] 26)).cell? ⟨b, off, none⟩ = some (.int .u8 x0)) (w0 : 0 ≤ x0 ∧ x0 ≤ 255) (hp : x0 / 16 = p) (hpt : x0.tdiv 16 = p) (hq : x0 % 16 = q) (hqt : x0.tmod 16 = q) (hq4 : q * 4 = (hh : Int)) (q0 : 0 ≤ q ∧ q ≤ 15) (hp4 : p = 4) (h3 : 20 ≤ hh) (h4 : hh ≤ n) (h5 : hh ≤ tt) (h6 : tt ≤ n) (T2 : Hid (ref.get2 l 2 = (tt : Int))) (HS : Hid (oct.sumF (l.take hh) = 0)) (B b13 : Int) (nb : Bool) (T6 : Hid (ref.get2 l 6 = B)) (HNB : Hid ((bits .and .i64 B 32768 != 0) = nb)) (hb : nb = false) (hof : Ofs ((l.take hh).drop 20) true) (hB13 : B % 8192 = b13) (hB13t : B.tmod 8192 = b13) (hbb2 : 0 ≤ b13 ∧ b13 ≤ 8191) (hlong : ¬ 65535 - (hh : Int) < b13 * 8 + (tt : Int) - (hh : Int)) (sv v4 lf pr v12 v16 : Int) (wh mo : Bool) (hsv : 0 ≤ sv ∧ sv ≤ 255) (hlf : 0 ≤ lf ∧ lf ≤ 255) (hpr : 0 ≤ pr ∧ pr ≤ 255) (e1 : Hid (l.getD 1 0 = sv)) (e8 : Hid (l.getD 8 0 = lf)) (e9 : Hid (l.getD 9 0 = pr)) (P4 : Hid (ref.get2 l 4 = v4)) (P12 : Hid (ref.get4 l 12 = v12)) (P16 : Hid (ref.get4 l 16 = v16)) (HWH : Hid ((bits .and .i64 B 16384 != 0) = wh)) (HMO : Hid ((bits .and .i64 B 8192 != 0) = mo)) :
    Calls Tryd.prog 19 #[.slice (some ⟨b, off, none⟩) n c] w fun x w' => ∃ ov dv, x = .returned (.tuple #[.agg #[.int .i64 sv, .int .i64 v4, .bool wh, .bool mo, .int .i64 (b13 * 8), .int .i64 lf, .int .i64 pr, .int .u32 v12, .int .u32 v16, ov, dv], .int .i64 0]) ∧ Own .u8 5 w' w.heap.size ov ((l.take hh).drop 20) ∧ Own .u8 5 w' w.heap.size dv ((l.take tt).drop hh) ∧ Only [] w w' := by
  have QB : Hid (Only [] w ((w.alloc (.cells #[.int .i64 0, .int .i64 0, .bool false, .bool false, .int .i64 0, .int .i64 0, .int .i64 0, .int .u32 0, .int .u32 0, .slice none 0 0, .slice none 0 0] 26)).alloc (.cells #[.int .i64 0, .int .i64 0, .bool false, .bool false, .int .i64 0, .int .i64 0, .int .i64 0, .int .u32 0, .int .u32 0, .slice none 0 0, .slice none 0 0] 26))) := hid (((Only.refl [] w).alloc _).alloc _)
  have OR : Hid (Ob ((w.alloc (.cells #[.int .i64 0, .int .i64 0, .bool false, .bool false, .int .i64 0, .int .i64 0, .int .i64 0, .int .u32 0, .int .u32 0, .slice none 0 0, .slice none 0 0] 26)).alloc (.cells #[.int .i64 0, .int .i64 0, .bool false, .bool false, .int .i64 0, .int .i64 0, .int .i64 0, .int .u32 0, .int .u32 0, .slice none 0 0, .slice none 0 0] 26)) w.heap.size 26 #[.int .i64 0, .int .i64 0, .bool false, .bool false, .int .i64 0, .int .i64 0, .int .i64 0, .int .u32 0, .int .u32 0, .slice none 0 0, .slice none 0 0]) := hid ((Ob.new _ _ _).alloc _)
  have OP : Hid (Ob ((w.alloc (.cells #[.int .i64 0, .int .i64 0, .bool false, .bool false, .int .i64 0, .int .i64 0, .int .i64 0, .int .u32 0, .int .u32 0, .slice none 0 0, .slice none 0 0] 26)).alloc (.cells #[.int .i64 0, .int .i64 0, .bool false, .bool false, .int .i64 0, .int .i64 0, .int .i64 0, .int .u32 0, .int .u32 0, .slice none 0 0, .slice none 0 0] 26)) (w.heap.size + 1) 26 #[.int .i64 0, .int .i64 0, .bool false, .bool false, .int .i64 0, .int .i64 0, .int .i64 0, .int .u32 0, .int .u32 0, .slice none 0 0, .slice none 0 0]) := hid (by have := Ob.new (w.alloc (.cells #[.int .i64 0, .int .i64 0, .bool false, .bool false, .int .i64 0, .int .i64 0, .int .i64 0, .int .u32 0, .int .u32 0, .slice none 0 0, .slice none 0 0] 26)) 26 #[.int .i64 0, .int .i64 0, .bool false, .bool false, .int .i64 0, .int .i64 0, .int .i64 0, .int .u32 0, .int .u32 0, .slice none 0 0, .slice none 0 0]; simpa using this)
  have HL := hid hl; clear hl
  have HBB := hid hbb; clear hbb
  have d1 : decide ((n : Int) < 20) = false := decide_eq_false (by omega)
  have i0 : (0 : Int) < n := by omega
  subst hp4 hb
  have d2 : ((4 : Int) != 4) = false := rfl
  have d3 : ¬ (hh : Int) < 20 := by omega
  have d4 : ¬ (n : Int) < (hh : Int) := by omega
  have d5 : ¬ (tt : Int) < (hh : Int) := by omega
  have d6 : ¬ (n : Int) < (tt : Int) := by omega
  have hhc : (hh : Int) ≤ (c : Int) := by omega
  have hs2 : ∃ A' c', (∀ W : World, (Instr.slice 24 (.slice (some ⟨b, off, none⟩) n c) (some (.int .i64 20)) (some (.int .i64 (hh : Int))) none).run Tryd.prog W = .ok (.slice A' (hh - 20) c') W) ∧ Rd .u8 w A' (hh - 20) ((l.take hh).drop 20) ∧ hh - 20 ≤ c' ∧ c' ≤ maxLen ∧ (A' = none → c' = 0) := by
    have h0 := (HL.out.take hh (by omega)).drop 20 (by omega)
    by_cases hce : c = 20
    · subst hce
      obtain rfl : hh = 20 := by omega
      refine ⟨some ⟨b, off, none⟩, 0, fun W => ?_, ?_, by omega, by unfold maxLen; omega, by simp⟩
      · go_simp
      · rw [Nat.sub_self, List.drop_of_length_le (by rw [List.length_take]; omega)]; exact Rd.nil _ _ _
    · have g1 : ¬ (c : Int) = 20 := by omega
      have g2 : (20 : Int) ≤ (hh : Int) := by omega
      have g3 : (hh : Int) ≤ (c : Int) := by omega
      exact ⟨some ⟨b, off + 20, none⟩, c - 20, fun W => by go_simp, h0, by omega, by omega, by simp⟩
  obtain ⟨A3, c3, hs2, hr3, hc3, hm3, hn3⟩ := hs2
  have HS2 := hid hs2; have HR3 := hid hr3; have HC3 := hid hn3; clear hs2 hr3 hn3
  have hs4 : ∃ A' c', (∀ W : World, (Instr.slice 24 (.slice (some ⟨b, off, none⟩) n c) (some (.int .i64 (hh : Int))) (some (.int .i64 (tt : Int))) none).run Tryd.prog W = .ok (.slice A' (tt - hh) c') W) ∧ Rd .u8 w A' (tt - hh) ((l.take tt).drop hh) ∧ (A' = none → c' = 0) := by
    have h0 := (HL.out.take tt (by omega)).drop hh (by omega)
    by_cases hce : c = hh
    · subst hce
      obtain rfl : tt = c := by omega
      refine ⟨some ⟨b, off, none⟩, 0, fun W => ?_, ?_, by simp⟩
      · go_simp
      · rw [Nat.sub_self, List.drop_of_length_le (by rw [List.length_take]; omega)]; exact Rd.nil _ _ _
    · have g1 : ¬ (c : Int) = (hh : Int) := by omega
      have g2 : (hh : Int) ≤ (tt : Int) := by omega
      have g3 : (tt : Int) ≤ (c : Int) := by omega
      exact ⟨some ⟨b, off + hh, none⟩, c - hh, fun W => by go_simp, h0, by simp⟩
  obtain ⟨A4, c4, hs4, hr4, hn4⟩ := hs4
  have HS4 := hid hs4; have HR4 := hid hr4; have HC4 := hid hn4; clear hs4 hr4 hn4
  have hhc2 : (hh : Int) ≤ (tt : Int) := by omega
  have HOL2 : Hid (((l.take hh).drop 20).length = hh - 20) := hid (by rw [List.length_drop, List.length_take, HL.out.len]; omega)
  have HDL2 : Hid (((l.take tt).drop hh).length = tt - hh) := hid (by rw [List.length_drop, List.length_take, HL.out.len]; omega)
  have C1 : Hid (∀ W : World, Rd .u8 W (some ⟨b, off, none⟩) n l → W.cell? ⟨b, off + 1, none⟩ = some (.int .u8 sv)) := hid (fun W h => by have := h.cellD 1 (by omega); rwa [show l.getD 1 0 = sv from e1.out] at this)
  have C8 : Hid (∀ W : World, Rd .u8 W (some ⟨b, off, none⟩) n l → W.cell? ⟨b, off + 8, none⟩ = some (.int .u8 lf)) := hid (fun W h => by have := h.cellD 8 (by omega); rwa [show l.getD 8 0 = lf from e8.out] at this)
  have C9 : Hid (∀ W : World, Rd .u8 W (some ⟨b, off, none⟩) n l → W.cell? ⟨b, off + 9, none⟩ = some (.int .u8 pr)) := hid (fun W h => by have := h.cellD 9 (by omega); rwa [show l.getD 9 0 = pr from e9.out] at this)
  have i1 : (1 : Int) < n := by omega
  have ASV : Hid (IntKind.i64.wrap sv = sv) := hid (i64_in _ (by omega)); have ALF : Hid (IntKind.i64.wrap lf = lf) := hid (i64_in _ (by omega)); have APR : Hid (IntKind.i64.wrap pr = pr) := hid (i64_in _ (by omega))
  have i8 : (8 : Int) < n := by omega
  have i9 : (9 : Int) < n := by omega
  go_enter Tryd.func19, Tryd.ntmps19
  go_wp2_with fail
  clear c0 hq hqt hp hpt
  refine (ref.get21 _ (some ⟨b, off, none⟩) n c l (HL.out.only_nil QB.out) 2 (by omega) (by omega)).mono ?_
  rintro x w6 ⟨rfl, m6, h6⟩
  have o6 := only_drewN h6
  have OR := hid (OR.out.only o6 (by simp)); have OP := hid (OP.out.only o6 (by simp)); have QB := hid (QB.out.trans o6)
  rw [T2.out]
  clear h6 o6
  go_wp2_with fail
  refine (oct.sum2 _ (some ⟨b, off, none⟩) hh c (l.take hh) ((HL.out.take hh (by omega)).only_nil QB.out) (by omega)).mono ?_
  rintro x w7 ⟨rfl, m7, h7⟩
  have o7 := only_drewN h7
  have OR := hid (OR.out.only o7 (by simp)); have OP := hid (OP.out.only o7 (by simp)); have QB := hid (QB.out.trans o7)
  clear h7 o7
  have ds : (oct.sumF (l.take hh) != 0) = false := by rw [HS.out]; rfl
  go_wp2_with fail
  clear ds
  refine (ref.get21 _ (some ⟨b, off, none⟩) n c l (HL.out.only_nil QB.out) 6 (by omega) (by omega)).mono ?_
  rintro x w8 ⟨rfl, m8, h8⟩
  have o8 := only_drewN h8
  have OR := hid (OR.out.only o8 (by simp)); have OP := hid (OP.out.only o8 (by simp)); have QB := hid (QB.out.trans o8)
  rw [T6.out]
  clear h8 o8
  have hnb := HNB.out
  have hs2 := HS2.out
  go_wp2_with fail
  clear hs2 hnb
  refine (op1 _ A3 (hh - 20) c3 ((l.take hh).drop 20) true (HR3.out.only_nil QB.out) hc3 hm3 (by omega) hof).mono ?_
  rintro x w9 ⟨rfl, rfl⟩
  go_wp2_with fail
  clear hlong hB13 hB13t q0 hq4 w0 d1 d2 d3 d4 d5 d6 i0 hof
  refine wp_region_noPanic ?_
  refine rgn.regionM (R := Same b) tbD (by kernel_rfl) (by kernel_rfl) (Same.refl b) (Same.trans (g := b)) (fun _ _ _ _ _ h => h) (.y 0 (.y 1 (.y 2 (.y 3 (.y 4 (.y 6 (.y 7 (.y 8 (.y 9 (.y 10 (.y 11 (.y 12 (.y 13 (.y 14 (.y 15 (.y 16 (.y 17 (.y 18 (.y 19 (.y 20 (.y 21 (.y 23 (.y 26 (.y 27 (.y 28 (.y 31 (.y 32 (.y 33 (.y 34 (.c 5 25 30 (.c 22 25 30 (.c 24 25 30 (.b 25 30 (.b 29 30 (.e 30 (.e 35 (.y 36 (.e 37 (.e 38 .z))))) (.e 29 (.e 35 (.y 36 (.e 37 (.e 38 .z)))))) (.e 25 (.e 29 (.e 35 (.y 36 (.e 37 (.e 38 .z))))))) (.b 24 30 (.b 29 30 (.e 30 (.e 35 (.y 36 (.e 37 (.e 38 .z))))) (.e 29 (.e 35 (.y 36 (.e 37 (.e 38 .z)))))) (.e 24 (.e 29 (.e 35 (.y 36 (.e 37 (.e 38 .z))))))) (.b 24 25 (.e 25 (.e 29 (.e 35 (.y 36 (.e 37 (.e 38 .z)))))) (.e 24 (.e 29 (.e 35 (.y 36 (.e 37 (.e 38 .z)))))))) (.b 22 30 (.b 24 30 (.b 29 30 (.e 30 (.e 35 (.y 36 (.e 37 (.e 38 .z))))) (.e 29 (.e 35 (.y 36 (.e 37 (.e 38 .z)))))) (.e 24 (.e 29 (.e 35 (.y 36 (.e 37 (.e 38 .z))))))) (.e 22 (.e 24 (.e 29 (.e 35 (.y 36 (.e 37 (.e 38 .z)))))))) (.b 22 25 (.b 24 25 (.e 25 (.e 29 (.e 35 (.y 36 (.e 37 (.e 38 .z)))))) (.e 24 (.e 29 (.e 35 (.y 36 (.e 37 (.e 38 .z))))))) (.e 22 (.e 24 (.e 29 (.e 35 (.y 36 (.e 37 (.e 38 .z))))))))) (.b 5 30 (.b 22 30 (.b 24 30 (.b 29 30 (.e 30 (.e 35 (.y 36 (.e 37 (.e 38 .z))))) (.e 29 (.e 35 (.y 36 (.e 37 (.e 38 .z)))))) (.e 24 (.e 29 (.e 35 (.y 36 (.e 37 (.e 38 .z))))))) (.e 22 (.e 24 (.e 29 (.e 35 (.y 36 (.e 37 (.e 38 .z)))))))) (.e 5 (.e 22 (.e 24 (.e 29 (.e 35 (.y 36 (.e 37 (.e 38 .z))))))))) (.b 5 25 (.b 22 25 (.b 24 25 (.e 25 (.e 29 (.e 35 (.y 36 (.e 37 (.e 38 .z)))))) (.e 24 (.e 29 (.e 35 (.y 36 (.e 37 (.e 38 .z))))))) (.e 22 (.e 24 (.e 29 (.e 35 (.y 36 (.e 37 (.e 38 .z)))))))) (.e 5 (.e 22 (.e 24 (.e 29 (.e 35 (.y 36 (.e 37 (.e 38 .z))))))))))))))))))))))))))))))))))))))) (by kernel_rfl) (fun W hWd => ?_)
  have HWd := hid hWd; clear hWd
  have OR := hid (OR.out.eq_drew HWd.out); have OP := hid (OP.out.eq_drew HWd.out); have QB := hid (QB.out.eq_drew HWd.out)
  clear HWd
  refine rgn.Walk.ys (v := ?_) rfl rfl rfl ?_ ?_
  rotate_left 1
  · intro W' hW'
    go_simp
    try with_reducible rfl
  try simp only [Act.put, List.setIfInBounds_toArray, List.set_cons_zero, List.set_cons_succ]
  refine rgn.Walk.ys (v := ?_) rfl rfl rfl ?_ ?_
  rotate_left 1
  · intro W' hW'
    go_simp
    try with_reducible rfl
  try simp only [Act.put, List.setIfInBounds_toArray, List.set_cons_zero, List.set_cons_succ]
  refine rgn.Walk.ys (v := ?_) rfl rfl rfl ?_ ?_
  rotate_left 1
  · intro W' hW'
    have q1 := (World.cell?_of_block (w := W) (a := ⟨b, off + 1, none⟩) (show W'.heap[b]? = W.heap[b]? from hW')).trans (C1.out _ (HL.out.only_nil QB.out))
    go_simp
    try with_reducible rfl
  try simp only [Act.put, List.setIfInBounds_toArray, List.set_cons_zero, List.set_cons_succ]
  refine rgn.Walk.ys (v := ?_) rfl rfl rfl ?_ ?_
  rotate_left 1
  · intro W' hW'
    have a1 := ASV.out
    go_simp
    try with_reducible rfl
  try simp only [Act.put, List.setIfInBounds_toArray, List.set_cons_zero, List.set_cons_succ]
  refine rgn.Walk.ys (v := ?_) rfl rfl rfl ?_ ?_
  rotate_left 1
  · intro W' hW'
    go_simp
    try with_reducible rfl
  try simp only [Act.put, List.setIfInBounds_toArray, List.set_cons_zero, List.set_cons_succ]
  refine rgn.Walk.ys (v := ?_) rfl rfl rfl ?_ ?_
  rotate_left 1
  · intro W' hW'
    go_simp
    try with_reducible rfl
  try simp only [Act.put, List.setIfInBounds_toArray, List.set_cons_zero, List.set_cons_succ]
  refine rgn.Walk.ys (v := ?_) rfl rfl rfl ?_ ?_
  rotate_left 1
  · intro W' hW'
    go_simp
    try with_reducible rfl
  try simp only [Act.put, List.setIfInBounds_toArray, List.set_cons_zero, List.set_cons_succ]
  refine rgn.Walk.ys (v := ?_) rfl rfl rfl ?_ ?_
  rotate_left 1
  · intro W' hW'
    have hwh := HWH.out
    go_simp
    try with_reducible rfl
  try simp only [Act.put, List.setIfInBounds_toArray, List.set_cons_zero, List.set_cons_succ]
  refine rgn.Walk.ys (v := ?_) rfl rfl rfl ?_ ?_
  rotate_left 1
  · intro W' hW'
    go_simp
    try with_reducible rfl
  try simp only [Act.put, List.setIfInBounds_toArray, List.set_cons_zero, List.set_cons_succ]
  refine rgn.Walk.ys (v := ?_) rfl rfl rfl ?_ ?_
  rotate_left 1
  · intro W' hW'
    go_simp
    try with_reducible rfl
  try simp only [Act.put, List.setIfInBounds_toArray, List.set_cons_zero, List.set_cons_succ]
  refine rgn.Walk.ys (v := ?_) rfl rfl rfl ?_ ?_
  rotate_left 1
  · intro W' hW'
    have hmo := HMO.out
    go_simp
    try with_reducible rfl
  try simp only [Act.put, List.setIfInBounds_toArray, List.set_cons_zero, List.set_cons_succ]
  refine rgn.Walk.ys (v := ?_) rfl rfl rfl ?_ ?_
  rotate_left 1
  · intro W' hW'
    go_simp
    try with_reducible rfl
  try simp only [Act.put, List.setIfInBounds_toArray, List.set_cons_zero, List.set_cons_succ]
  refine rgn.Walk.ys (v := ?_) rfl rfl rfl ?_ ?_
  rotate_left 1
  · intro W' hW'
    go_simp
    try with_reducible rfl
  try simp only [Act.put, List.setIfInBounds_toArray, List.set_cons_zero, List.set_cons_succ]
  refine rgn.Walk.ys (v := ?_) rfl rfl rfl ?_ ?_
  rotate_left 1
  · intro W' hW'
    go_simp
    try with_reducible rfl
  try simp only [Act.put, List.setIfInBounds_toArray, List.set_cons_zero, List.set_cons_succ]
  refine rgn.Walk.ys (v := ?_) rfl rfl rfl ?_ ?_
  rotate_left 1
  · intro W' hW'
    have q1 := (World.cell?_of_block (w := W) (a := ⟨b, off + 8, none⟩) (show W'.heap[b]? = W.heap[b]? from hW')).trans (C8.out _ (HL.out.only_nil QB.out))
    go_simp
    try with_reducible rfl
  try simp only [Act.put, List.setIfInBounds_toArray, List.set_cons_zero, List.set_cons_succ]
  refine rgn.Walk.ys (v := ?_) rfl rfl rfl ?_ ?_
  rotate_left 1
  · intro W' hW'
    have a1 := ALF.out
    go_simp
    try with_reducible rfl
  try simp only [Act.put, List.setIfInBounds_toArray, List.set_cons_zero, List.set_cons_succ]
  refine rgn.Walk.ys (v := ?_) rfl rfl rfl ?_ ?_
  rotate_left 1
  · intro W' hW'
    go_simp
    try with_reducible rfl
  try simp only [Act.put, List.setIfInBounds_toArray, List.set_cons_zero, List.set_cons_succ]
  refine rgn.Walk.ys (v := ?_) rfl rfl rfl ?_ ?_
  rotate_left 1
  · intro W' hW'
    go_simp
    try with_reducible rfl
  try simp only [Act.put, List.setIfInBounds_toArray, List.set_cons_zero, List.set_cons_succ]
  refine rgn.Walk.ys (v := ?_) rfl rfl rfl ?_ ?_
  rotate_left 1
  · intro W' hW'
    have q1 := (World.cell?_of_block (w := W) (a := ⟨b, off + 9, none⟩) (show W'.heap[b]? = W.heap[b]? from hW')).trans (C9.out _ (HL.out.only_nil QB.out))
    go_simp
    try with_reducible rfl
  try simp only [Act.put, List.setIfInBounds_toArray, List.set_cons_zero, List.set_cons_succ]
  refine rgn.Walk.ys (v := ?_) rfl rfl rfl ?_ ?_
  rotate_left 1
  · intro W' hW'
    have a1 := APR.out
    go_simp
    try with_reducible rfl
  try simp only [Act.put, List.setIfInBounds_toArray, List.set_cons_zero, List.set_cons_succ]
  refine rgn.Walk.ys (v := ?_) rfl rfl rfl ?_ ?_
  rotate_left 1
  · intro W' hW'
    go_simp
    try with_reducible rfl
  try simp only [Act.put, List.setIfInBounds_toArray, List.set_cons_zero, List.set_cons_succ]
  refine rgn.Walk.ys (v := ?_) rfl rfl rfl ?_ ?_
  rotate_left 1
  · intro W' hW'
    go_simp
    try with_reducible rfl
  try simp only [Act.put, List.setIfInBounds_toArray, List.set_cons_zero, List.set_cons_succ]
  refine rgn.Walk.ys (v := ?_) rfl rfl rfl ?_ ?_
  rotate_left 1
  · intro W' hW'
    go_simp
    try with_reducible rfl
  try simp only [Act.put, List.setIfInBounds_toArray, List.set_cons_zero, List.set_cons_succ]
  refine rgn.Walk.ys (v := ?_) rfl rfl rfl ?_ ?_
  rotate_left 1
  · intro W' hW'
    go_simp
    try with_reducible rfl
  try simp only [Act.put, List.setIfInBounds_toArray, List.set_cons_zero, List.set_cons_succ]
  refine rgn.Walk.ys (v := ?_) rfl rfl rfl ?_ ?_
  rotate_left 1
  · intro W' hW'
    have hs := HS2.out
    go_simp
    try with_reducible rfl
  try simp only [Act.put, List.setIfInBounds_toArray, List.set_cons_zero, List.set_cons_succ]
  refine rgn.Walk.ys (v := ?_) rfl rfl rfl ?_ ?_
  rotate_left 1
  · intro W' hW'
    go_simp
    try with_reducible rfl
  try simp only [Act.put, List.setIfInBounds_toArray, List.set_cons_zero, List.set_cons_succ]
  refine rgn.Walk.ys (v := ?_) rfl rfl rfl ?_ ?_
  rotate_left 1
  · intro W' hW'
    go_simp
    try with_reducible rfl
  try simp only [Act.put, List.setIfInBounds_toArray, List.set_cons_zero, List.set_cons_succ]
  refine rgn.Walk.ys (v := ?_) rfl rfl rfl ?_ ?_
  rotate_left 1
  · intro W' hW'
    go_simp
    try with_reducible rfl
  try simp only [Act.put, List.setIfInBounds_toArray, List.set_cons_zero, List.set_cons_succ]
  refine rgn.Walk.ys (v := ?_) rfl rfl rfl ?_ ?_
  rotate_left 1
  · intro W' hW'
    have hs := HS4.out
    go_simp
    try with_reducible rfl
  try simp only [Act.put, List.setIfInBounds_toArray, List.set_cons_zero, List.set_cons_succ]
  refine rgn.Walk.cs ?_ ?_ ?_
  · refine rgn.stepE rfl rfl (fun K hK => ?_)
    go_simp
    refine (callsOnly (ref.get21 _ (some ⟨b, off, none⟩) n c l (HL.out.only_nil QB.out) 4 (by omega) (by omega))).mono ?_
    rw [P4.out]
    rintro x1 wg5 ⟨rfl, og⟩
    refine hK _ _ (Same.only og (by have := QB.out.size; have := HBB.out; omega)) ?_
    clear hK K
    try simp only [Act.put, List.setIfInBounds_toArray, List.set_cons_zero, List.set_cons_succ]
    have OR := hid (OR.out.only og (by simp)); have OP := hid (OP.out.only og (by simp)); have QB := hid (QB.out.trans og); clear og
    refine rgn.Walk.cs ?_ ?_ ?_
    · refine rgn.stepE rfl rfl (fun K hK => ?_)
      go_simp
      refine (callsOnly (ref.get41 _ (some ⟨b, off, none⟩) n c l (HL.out.only_nil QB.out) 12 (by omega) (by omega))).mono ?_
      rw [P12.out]
      rintro x1 wg22 ⟨rfl, og⟩
      refine hK _ _ (Same.only og (by have := QB.out.size; have := HBB.out; omega)) ?_
      clear hK K
      try simp only [Act.put, List.setIfInBounds_toArray, List.set_cons_zero, List.set_cons_succ]
      have OR := hid (OR.out.only og (by simp)); have OP := hid (OP.out.only og (by simp)); have QB := hid (QB.out.trans og); clear og
      refine rgn.Walk.cs ?_ ?_ ?_
      · refine rgn.stepE rfl rfl (fun K hK => ?_)
        go_simp
        refine (callsOnly (ref.get41 _ (some ⟨b, off, none⟩) n c l (HL.out.only_nil QB.out) 16 (by omega) (by omega))).mono ?_
        rw [P16.out]
        rintro x1 wg24 ⟨rfl, og⟩
        refine hK _ _ (Same.only og (by have := QB.out.size; have := HBB.out; omega)) ?_
        clear hK K
        try simp only [Act.put, List.setIfInBounds_toArray, List.set_cons_zero, List.set_cons_succ]
        have OR := hid (OR.out.only og (by simp)); have OP := hid (OP.out.only og (by simp)); have QB := hid (QB.out.trans og); clear og
        refine rgn.Walk.bs ?_ ?_
        · refine rgn.stepE rfl rfl (fun K hK => ?_)
          go_simp
          refine hK _ _ (Same.alloc _ (by have := QB.out.size; have := HBB.out; omega)) ?_
          clear hK K
          try simp only [Act.put, List.setIfInBounds_toArray, List.set_cons_zero, List.set_cons_succ]
          have oA : Only [] wg24 (wg24.alloc (.cells #[] 5)) := (Only.refl [] _).alloc _
          have V25 : Hid (Own .u8 5 (wg24.alloc (.cells #[] 5)) (w.heap.size + 2) (.slice (some ⟨wg24.heap.size, 0, none⟩) 0 0) []) := hid (Own.lit .u8 5 _ (w.heap.size + 2) [] #[] 0 rfl rfl OP.out.lt (by simp) (by simp))
          obtain ⟨wb25, hwb25⟩ : ∃ X, X = (wg24.alloc (.cells #[] 5)) := ⟨_, rfl⟩
          obtain ⟨g25, hg25⟩ : ∃ X, X = wg24.heap.size := ⟨_, rfl⟩
          rw [← hwb25, ← hg25]
          rw [← hwb25, ← hg25] at V25
          rw [← hwb25] at oA
          have OR := hid (OR.out.only oA (by simp)); have OP := hid (OP.out.only oA (by simp)); have QB := hid (QB.out.trans oA); clear oA hwb25 hg25
          refine rgn.Walk.bs ?_ ?_
          · refine rgn.stepE rfl rfl (fun K hK => ?_)
            refine opApp rfl (.tmp 101) (.tmp 104) _ rfl hlp.elemB (w.heap.size + 2) _ [] rfl V25.out A3 (hh - 20) c3 ((l.take hh).drop 20) rfl (HR3.out.only_nil QB.out) HC3.out (by simp; omega) (by unfold maxLen; simp; omega) OP.out.lt ?_
            intro v1 wa29 hv hg hb
            refine hK _ _ (Same.grown hg (by have := QB.out.size; have := HBB.out; omega) (fun e => by have := (V25.out.lt _ e).1; have h9 := HBB.out; omega)) ?_
            clear hK K
            try simp only [Act.put, List.setIfInBounds_toArray, List.set_cons_zero, List.set_cons_succ]
            have OR := hid (OR.out.grown hg (fun e => by have := (V25.out.lt _ e).1; omega)); have OP := hid (OP.out.grown hg (fun e => by have := (V25.out.lt _ e).1; omega)); have QB := hid (QB.out.of_grown hg (fun k hk => .inr (by have := (V25.out.lt k hk).1; omega)))
            have V1 : Hid (Own .u8 5 wa29 (w.heap.size + 2) v1 ((l.take hh).drop 20)) := hid (by simpa using hv)
            obtain ⟨A5, c5, ev5, _, _, _, _⟩ := V1.out.slice
            rw [HOL2.out] at ev5
            subst ev5
            clear hv hg hb V25
            refine rgn.Walk.es ?_
            refine rgn.stepE rfl rfl (fun K hK => ?_)
            go_simp
            refine hK _ _ (Same.alloc _ (by have := QB.out.size; have := HBB.out; omega)) ?_
            clear hK K
            try simp only [Act.put, List.setIfInBounds_toArray, List.set_cons_zero, List.set_cons_succ]
            have oA : Only [] wa29 (wa29.alloc (.cells #[] 5)) := (Only.refl [] _).alloc _
            have V30 : Hid (Own .u8 5 (wa29.alloc (.cells #[] 5)) (w.heap.size + 2) (.slice (some ⟨wa29.heap.size, 0, none⟩) 0 0) []) := hid (Own.lit .u8 5 _ (w.heap.size + 2) [] #[] 0 rfl rfl OP.out.lt (by simp) (by simp))
            obtain ⟨wb30, hwb30⟩ : ∃ X, X = (wa29.alloc (.cells #[] 5)) := ⟨_, rfl⟩
            obtain ⟨g30, hg30⟩ : ∃ X, X = wa29.heap.size := ⟨_, rfl⟩
            rw [← hwb30, ← hg30]
            rw [← hwb30, ← hg30] at V30
            rw [← hwb30] at oA
            have NE1 : Hid ((Value.slice A5 (hh - 20) c5).ownBlock ≠ some g30) := hid (fun e => by have := (V1.out.lt _ e).2; omega)
            have OR := hid (OR.out.only oA (by simp)); have OP := hid (OP.out.only oA (by simp)); have QB := hid (QB.out.trans oA); have V1 := hid (V1.out.only_nil oA); clear oA hwb30 hg30
            refine rgn.Walk.es ?_
            refine rgn.stepE rfl rfl (fun K hK => ?_)
            refine opApp rfl (.tmp 106) (.tmp 110) _ rfl hlp.elemB (w.heap.size + 2) _ [] rfl V30.out A4 (tt - hh) c4 ((l.take tt).drop hh) rfl (HR4.out.only_nil QB.out) HC4.out (by simp; omega) (by unfold maxLen; simp; omega) OP.out.lt ?_
            intro v2 wa35 hv hg hb
            refine hK _ _ (Same.grown hg (by have := QB.out.size; have := HBB.out; omega) (fun e => by have := (V30.out.lt _ e).1; have h9 := HBB.out; omega)) ?_
            clear hK K
            try simp only [Act.put, List.setIfInBounds_toArray, List.set_cons_zero, List.set_cons_succ]
            have V1 := hid (V1.out.grown hg (Or.inr NE1.out))
            have OR := hid (OR.out.grown hg (fun e => by have := (V30.out.lt _ e).1; omega)); have OP := hid (OP.out.grown hg (fun e => by have := (V30.out.lt _ e).1; omega)); have QB := hid (QB.out.of_grown hg (fun k hk => .inr (by have := (V30.out.lt k hk).1; omega)))
            have V2 : Hid (Own .u8 5 wa35 (w.heap.size + 2) v2 ((l.take tt).drop hh)) := hid (by simpa using hv)
            obtain ⟨A6, c6, ev6, _, _, _, _⟩ := V2.out.slice
            rw [HDL2.out] at ev6
            subst ev6
            clear hv hg hb V30
            refine rgn.Walk.ys (v := ?_) rfl rfl rfl ?_ ?_
            rotate_left 1
            · intro W' hW'
              go_simp
              try with_reducible rfl
            try simp only [Act.put, List.setIfInBounds_toArray, List.set_cons_zero, List.set_cons_succ]
            refine rgn.Walk.es ?_
            refine rgn.stepE rfl rfl (fun K hK => ?_)
            refine opStoreOb rfl 26 _ _ rfl w.heap.size #[.int .i64 sv, .int .i64 v4, .bool wh, .bool mo, .int .i64 (b13 * 8), .int .i64 lf, .int .i64 pr, .int .u32 v12, .int .u32 v16, .slice A5 (hh - 20) c5, .slice A6 (tt - hh) c6] rfl rfl _ _ OR.out rfl (by kernel_rfl) (by simp [Value.oneCell']) (fun W9 hW9 => ?_)
            refine hK _ _ (((Only.refl [w.heap.size] _).eq_all hW9 (Or.inl (by simp))).block b (by have := QB.out.size; have := HBB.out; omega) (by simp; have := HBB.out; omega)) ?_
            clear hK K
            try simp only [Act.put, List.setIfInBounds_toArray, List.set_cons_zero, List.set_cons_succ]
            have OR5 := hid (OR.out.eq_all hW9 rfl); have QB5 := hid (QB.out.eq_all hW9 (Or.inr (by simp))); have QV5 : Hid (Only [w.heap.size] _ W9) := hid ((Only.refl _ _).eq_all hW9 (Or.inl (by simp))); clear hW9
            refine rgn.Walk.es ?_
            refine rgn.stepE rfl rfl (fun K hK => ?_)
            go_simp
            refine hK _ _ ((Same.refl b) _) ?_
            clear hK K
            try simp only [Act.put, List.setIfInBounds_toArray, List.set_cons_zero, List.set_cons_succ]
            refine rgn.Walk.zs (NoPanic.normal ?_)
            have HV5 := hid (V1.out.only QV5.out (fun i hi => by have h9 := (V1.out.lt i hi).1; simp; omega)); have HV6 := hid (V2.out.only QV5.out (fun i hi => by have h9 := (V2.out.lt i hi).1; simp; omega))
            have r0 := OR5.out.cell 0; have r1 := OR5.out.cell 1; have r2 := OR5.out.cell 2; have r3 := OR5.out.cell 3; have r4 := OR5.out.cell 4; have r5 := OR5.out.cell 5; have r6 := OR5.out.cell 6; have r7 := OR5.out.cell 7; have r8 := OR5.out.cell 8; have r9 := OR5.out.cell 9; have r10 := OR5.out.cell 10
            go_wp2
            exact bodyPost_ret (v := .tuple #[.agg #[.int .i64 sv, .int .i64 v4, .bool wh, .bool mo, .int .i64 (b13 * 8), .int .i64 lf, .int .i64 pr, .int .u32 v12, .int .u32 v16, .slice A5 (hh - 20) c5, .slice A6 (tt - hh) c6], .int .i64 0]) (by simp [results, Tryd.results19, go_sem, *]) rfl ⟨_, _, rfl, HV5.out.mono_base (by omega), HV6.out.mono_base (by omega), QB5.out⟩
          · refine rgn.stepE rfl rfl (fun K hK => ?_)
            go_simp
            refine hK _ _ (Same.alloc _ (by have := QB.out.size; have := HBB.out; omega)) ?_
            clear hK K
            try simp only [Act.put, List.setIfInBounds_toArray, List.set_cons_zero, List.set_cons_succ]
            have oA : Only [] wb25 (wb25.alloc (.cells #[] 5)) := (Only.refl [] _).alloc _
            have V30 : Hid (Own .u8 5 (wb25.alloc (.cells #[] 5)) (w.heap.size + 2) (.slice (some ⟨wb25.heap.size, 0, none⟩) 0 0) []) := hid (Own.lit .u8 5 _ (w.heap.size + 2) [] #[] 0 rfl rfl OP.out.lt (by simp) (by simp))
            obtain ⟨wb30, hwb30⟩ : ∃ X, X = (wb25.alloc (.cells #[] 5)) := ⟨_, rfl⟩
            obtain ⟨g30, hg30⟩ : ∃ X, X = wb25.heap.size := ⟨_, rfl⟩
            rw [← hwb30, ← hg30]
            rw [← hwb30, ← hg30] at V30
            rw [← hwb30] at oA
            have NE : Hid (g25 ≠ g30) := hid (by have := (V25.out.lt g25 rfl).2; omega)
            have OR := hid (OR.out.only oA (by simp)); have OP := hid (OP.out.only oA (by simp)); have QB := hid (QB.out.trans oA); have V25 := hid (V25.out.only_nil oA); clear oA hwb30 hg30
            refine rgn.Walk.es ?_
            refine rgn.stepE rfl rfl (fun K hK => ?_)
            refine opApp rfl (.tmp 101) (.tmp 104) _ rfl hlp.elemB (w.heap.size + 2) _ [] rfl V25.out A3 (hh - 20) c3 ((l.take hh).drop 20) rfl (HR3.out.only_nil QB.out) HC3.out (by simp; omega) (by unfold maxLen; simp; omega) OP.out.lt ?_
            intro v1 wa29 hv hg hb
            refine hK _ _ (Same.grown hg (by have := QB.out.size; have := HBB.out; omega) (fun e => by have := (V25.out.lt _ e).1; have h9 := HBB.out; omega)) ?_
            clear hK K
            try simp only [Act.put, List.setIfInBounds_toArray, List.set_cons_zero, List.set_cons_succ]
            have NE1 : Hid (v1.ownBlock ≠ some g30) := hid (ne_blk (g := g25) hb NE.out (V30.out.lt g30 rfl).2)
            have V30 := hid (V30.out.grown hg (Or.inr (fun e => NE.out (Option.some.inj (show some g30 = some g25 from e)).symm)))
            have OR := hid (OR.out.grown hg (fun e => by have := (V25.out.lt _ e).1; omega)); have OP := hid (OP.out.grown hg (fun e => by have := (V25.out.lt _ e).1; omega)); have QB := hid (QB.out.of_grown hg (fun k hk => .inr (by have := (V25.out.lt k hk).1; omega)))
            have V1 : Hid (Own .u8 5 wa29 (w.heap.size + 2) v1 ((l.take hh).drop 20)) := hid (by simpa using hv)
            obtain ⟨A5, c5, ev5, _, _, _, _⟩ := V1.out.slice
            rw [HOL2.out] at ev5
            subst ev5
            clear hv hg hb V25
            refine rgn.Walk.es ?_
            refine rgn.stepE rfl rfl (fun K hK => ?_)
            refine opApp rfl (.tmp 106) (.tmp 110) _ rfl hlp.elemB (w.heap.size + 2) _ [] rfl V30.out A4 (tt - hh) c4 ((l.take tt).drop hh) rfl (HR4.out.only_nil QB.out) HC4.out (by simp; omega) (by unfold maxLen; simp; omega) OP.out.lt ?_
            intro v2 wa35 hv hg hb
            refine hK _ _ (Same.grown hg (by have := QB.out.size; have := HBB.out; omega) (fun e => by have := (V30.out.lt _ e).1; have h9 := HBB.out; omega)) ?_
            clear hK K
            try simp only [Act.put, List.setIfInBounds_toArray, List.set_cons_zero, List.set_cons_succ]
            have V1 := hid (V1.out.grown hg (Or.inr NE1.out))
            have OR := hid (OR.out.grown hg (fun e => by have := (V30.out.lt _ e).1; omega)); have OP := hid (OP.out.grown hg (fun e => by have := (V30.out.lt _ e).1; omega)); have QB := hid (QB.out.of_grown hg (fun k hk => .inr (by have := (V30.out.lt k hk).1; omega)))
            have V2 : Hid (Own .u8 5 wa35 (w.heap.size + 2) v2 ((l.take tt).drop hh)) := hid (by simpa using hv)
            obtain ⟨A6, c6, ev6, _, _, _, _⟩ := V2.out.slice
            rw [HDL2.out] at ev6
            subst ev6
            clear hv hg hb V30
            refine rgn.Walk.ys (v := ?_) rfl rfl rfl ?_ ?_
            rotate_left 1
            · intro W' hW'
              go_simp
              try with_reducible rfl
            try simp only [Act.put, List.setIfInBounds_toArray, List.set_cons_zero, List.set_cons_succ]
            refine rgn.Walk.es ?_
            refine rgn.stepE rfl rfl (fun K hK => ?_)
            refine opStoreOb rfl 26 _ _ rfl w.heap.size #[.int .i64 sv, .int .i64 v4, .bool wh, .bool mo, .int .i64 (b13 * 8), .int .i64 lf, .int .i64 pr, .int .u32 v12, .int .u32 v16, .slice A5 (hh - 20) c5, .slice A6 (tt - hh) c6] rfl rfl _ _ OR.out rfl (by kernel_rfl) (by simp [Value.oneCell']) (fun W9 hW9 => ?_)
            refine hK _ _ (((Only.refl [w.heap.size] _).eq_all hW9 (Or.inl (by simp))).block b (by have := QB.out.size; have := HBB.out; omega) (by simp; have := HBB.out; omega)) ?_
            clear hK K
            try simp only [Act.put, List.setIfInBounds_toArray, List.set_cons_zero, List.set_cons_succ]
            have OR5 := hid (OR.out.eq_all hW9 rfl); have QB5 := hid (QB.out.eq_all hW9 (Or.inr (by simp))); have QV5 : Hid (Only [w.heap.size] _ W9) := hid ((Only.refl _ _).eq_all hW9 (Or.inl (by simp))); clear hW9
            refine rgn.Walk.es ?_
            refine rgn.stepE rfl rfl (fun K hK => ?_)
            go_simp
            refine hK _ _ ((Same.refl b) _) ?_
            clear hK K
            try simp only [Act.put, List.setIfInBounds_toArray, List.set_cons_zero, List.set_cons_succ]
            refine rgn.Walk.zs (NoPanic.normal ?_)
            have HV5 := hid (V1.out.only QV5.out (fun i hi => by have h9 := (V1.out.lt i hi).1; simp; omega)); have HV6 := hid (V2.out.only QV5.out (fun i hi => by have h9 := (V2.out.lt i hi).1; simp; omega))
            have r0 := OR5.out.cell 0; have r1 := OR5.out.cell 1; have r2 := OR5.out.cell 2; have r3 := OR5.out.cell 3; have r4 := OR5.out.cell 4; have r5 := OR5.out.cell 5; have r6 := OR5.out.cell 6; have r7 := OR5.out.cell 7; have r8 := OR5.out.cell 8; have r9 := OR5.out.cell 9; have r10 := OR5.out.cell 10
            go_wp2
            exact bodyPost_ret (v := .tuple #[.agg #[.int .i64 sv, .int .i64 v4, .bool wh, .bool mo, .int .i64 (b13 * 8), .int .i64 lf, .int .i64 pr, .int .u32 v12, .int .u32 v16, .slice A5 (hh - 20) c5, .slice A6 (tt - hh) c6], .int .i64 0]) (by simp [results, Tryd.results19, go_sem, *]) rfl ⟨_, _, rfl, HV5.out.mono_base (by omega), HV6.out.mono_base (by omega), QB5.out⟩
        · refine rgn.stepE rfl rfl (fun K hK => ?_)
          go_simp
          refine hK _ _ (Same.alloc _ (by have := QB.out.size; have := HBB.out; omega)) ?_
          clear hK K
          try simp only [Act.put, List.setIfInBounds_toArray, List.set_cons_zero, List.set_cons_succ]
          have oA : Only [] wg24 (wg24.alloc (.cells #[] 5)) := (Only.refl [] _).alloc _
          have V30 : Hid (Own .u8 5 (wg24.alloc (.cells #[] 5)) (w.heap.size + 2) (.slice (some ⟨wg24.heap.size, 0, none⟩) 0 0) []) := hid (Own.lit .u8 5 _ (w.heap.size + 2) [] #[] 0 rfl rfl OP.out.lt (by simp) (by simp))
          obtain ⟨wb30, hwb30⟩ : ∃ X, X = (wg24.alloc (.cells #[] 5)) := ⟨_, rfl⟩
          obtain ⟨g30, hg30⟩ : ∃ X, X = wg24.heap.size := ⟨_, rfl⟩
          rw [← hwb30, ← hg30]
          rw [← hwb30, ← hg30] at V30
          rw [← hwb30] at oA
          have OR := hid (OR.out.only oA (by simp)); have OP := hid (OP.out.only oA (by simp)); have QB := hid (QB.out.trans oA); clear oA hwb30 hg30
          refine rgn.Walk.es ?_
          refine rgn.stepE rfl rfl (fun K hK => ?_)
          go_simp
          refine hK _ _ (Same.alloc _ (by have := QB.out.size; have := HBB.out; omega)) ?_
          clear hK K
          try simp only [Act.put, List.setIfInBounds_toArray, List.set_cons_zero, List.set_cons_succ]
          have oA : Only [] wb30 (wb30.alloc (.cells #[] 5)) := (Only.refl [] _).alloc _
          have V25 : Hid (Own .u8 5 (wb30.alloc (.cells #[] 5)) (w.heap.size + 2) (.slice (some ⟨wb30.heap.size, 0, none⟩) 0 0) []) := hid (Own.lit .u8 5 _ (w.heap.size + 2) [] #[] 0 rfl rfl OP.out.lt (by simp) (by simp))
          obtain ⟨wb25, hwb25⟩ : ∃ X, X = (wb30.alloc (.cells #[] 5)) := ⟨_, rfl⟩
          obtain ⟨g25, hg25⟩ : ∃ X, X = wb30.heap.size := ⟨_, rfl⟩
          rw [← hwb25, ← hg25]
          rw [← hwb25, ← hg25] at V25
          rw [← hwb25] at oA
          have NE : Hid (g25 ≠ g30) := hid (by have := (V30.out.lt g30 rfl).2; omega)
          have OR := hid (OR.out.only oA (by simp)); have OP := hid (OP.out.only oA (by simp)); have QB := hid (QB.out.trans oA); have V30 := hid (V30.out.only_nil oA); clear oA hwb25 hg25
          refine rgn.Walk.es ?_
          refine rgn.stepE rfl rfl (fun K hK => ?_)
          refine opApp rfl (.tmp 101) (.tmp 104) _ rfl hlp.elemB (w.heap.size + 2) _ [] rfl V25.out A3 (hh - 20) c3 ((l.take hh).drop 20) rfl (HR3.out.only_nil QB.out) HC3.out (by simp; omega) (by unfold maxLen; simp; omega) OP.out.lt ?_
          intro v1 wa29 hv hg hb
          refine hK _ _ (Same.grown hg (by have := QB.out.size; have := HBB.out; omega) (fun e => by have := (V25.out.lt _ e).1; have h9 := HBB.out; omega)) ?_
          clear hK K
          try simp only [Act.put, List.setIfInBounds_toArray, List.set_cons_zero, List.set_cons_succ]
          have NE1 : Hid (v1.ownBlock ≠ some g30) := hid (ne_blk (g := g25) hb NE.out (V30.out.lt g30 rfl).2)
          have V30 := hid (V30.out.grown hg (Or.inr (fun e => NE.out (Option.some.inj (show some g30 = some g25 from e)).symm)))
          have OR := hid (OR.out.grown hg (fun e => by have := (V25.out.lt _ e).1; omega)); have OP := hid (OP.out.grown hg (fun e => by have := (V25.out.lt _ e).1; omega)); have QB := hid (QB.out.of_grown hg (fun k hk => .inr (by have := (V25.out.lt k hk).1; omega)))
          have V1 : Hid (Own .u8 5 wa29 (w.heap.size + 2) v1 ((l.take hh).drop 20)) := hid (by simpa using hv)
          obtain ⟨A5, c5, ev5, _, _, _, _⟩ := V1.out.slice
          rw [HOL2.out] at ev5
          subst ev5
          clear hv hg hb V25
          refine rgn.Walk.es ?_
          refine rgn.stepE rfl rfl (fun K hK => ?_)
          refine opApp rfl (.tmp 106) (.tmp 110) _ rfl hlp.elemB (w.heap.size + 2) _ [] rfl V30.out A4 (tt - hh) c4 ((l.take tt).drop hh) rfl (HR4.out.only_nil QB.out) HC4.out (by simp; omega) (by unfold maxLen; simp; omega) OP.out.lt ?_
          intro v2 wa35 hv hg hb
          refine hK _ _ (Same.grown hg (by have := QB.out.size; have := HBB.out; omega) (fun e => by have := (V30.out.lt _ e).1; have h9 := HBB.out; omega)) ?_
          clear hK K
          try simp only [Act.put, List.setIfInBounds_toArray, List.set_cons_zero, List.set_cons_succ]
          have V1 := hid (V1.out.grown hg (Or.inr NE1.out))
          have OR := hid (OR.out.grown hg (fun e => by have := (V30.out.lt _ e).1; omega)); have OP := hid (OP.out.grown hg (fun e => by have := (V30.out.lt _ e).1; omega)); have QB := hid (QB.out.of_grown hg (fun k hk => .inr (by have := (V30.out.lt k hk).1; omega)))
          have V2 : Hid (Own .u8 5 wa35 (w.heap.size + 2) v2 ((l.take tt).drop hh)) := hid (by simpa using hv)
          obtain ⟨A6, c6, ev6, _, _, _, _⟩ := V2.out.slice
          rw [HDL2.out] at ev6
          subst ev6
          clear hv hg hb V30
          refine rgn.Walk.ys (v := ?_) rfl rfl rfl ?_ ?_
          rotate_left 1
          · intro W' hW'
            go_simp
            try with_reducible rfl
          try simp only [Act.put, List.setIfInBounds_toArray, List.set_cons_zero, List.set_cons_succ]
          refine rgn.Walk.es ?_
          refine rgn.stepE rfl rfl (fun K hK => ?_)
          refine opStoreOb rfl 26 _ _ rfl w.heap.size #[.int .i64 sv, .int .i64 v4, .bool wh, .bool mo, .int .i64 (b13 * 8), .int .i64 lf, .int .i64 pr, .int .u32 v12, .int .u32 v16, .slice A5 (hh - 20) c5, .slice A6 (tt - hh) c6] rfl rfl _ _ OR.out rfl (by kernel_rfl) (by simp [Value.oneCell']) (fun W9 hW9 => ?_)
          refine hK _ _ (((Only.refl [w.heap.size] _).eq_all hW9 (Or.inl (by simp))).block b (by have := QB.out.size; have := HBB.out; omega) (by simp; have := HBB.out; omega)) ?_
          clear hK K
          try simp only [Act.put, List.setIfInBounds_toArray, List.set_cons_zero, List.set_cons_succ]
          have OR5 := hid (OR.out.eq_all hW9 rfl); have QB5 := hid (QB.out.eq_all hW9 (Or.inr (by simp))); have QV5 : Hid (Only [w.heap.size] _ W9) := hid ((Only.refl _ _).eq_all hW9 (Or.inl (by simp))); clear hW9
          refine rgn.Walk.es ?_
          refine rgn.stepE rfl rfl (fun K hK => ?_)
          go_simp
          refine hK _ _ ((Same.refl b) _) ?_
          clear hK K
          try simp only [Act.put, List.setIfInBounds_toArray, List.set_cons_zero, List.set_cons_succ]
          refine rgn.Walk.zs (NoPanic.normal ?_)
          have HV5 := hid (V1.out.only QV5.out (fun i hi => by have h9 := (V1.out.lt i hi).1; simp; omega)); have HV6 := hid (V2.out.only QV5.out (fun i hi => by have h9 := (V2.out.lt i hi).1; simp; omega))
          have r0 := OR5.out.cell 0; have r1 := OR5.out.cell 1; have r2 := OR5.out.cell 2; have r3 := OR5.out.cell 3; have r4 := OR5.out.cell 4; have r5 := OR5.out.cell 5; have r6 := OR5.out.cell 6; have r7 := OR5.out.cell 7; have r8 := OR5.out.cell 8; have r9 := OR5.out.cell 9; have r10 := OR5.out.cell 10
          go_wp2
          exact bodyPost_ret (v := .tuple #[.agg #[.int .i64 sv, .int .i64 v4, .bool wh, .bool mo, .int .i64 (b13 * 8), .int .i64 lf, .int .i64 pr, .int .u32 v12, .int .u32 v16, .slice A5 (hh - 20) c5, .slice A6 (tt - hh) c6], .int .i64 0]) (by simp [results, Tryd.results19, go_sem, *]) rfl ⟨_, _, rfl, HV5.out.mono_base (by omega), HV6.out.mono_base (by omega), QB5.out⟩
      · refine rgn.stepE rfl rfl (fun K hK => ?_)
        go_simp
        refine hK _ _ (Same.alloc _ (by have := QB.out.size; have := HBB.out; omega)) ?_
        clear hK K
        try simp only [Act.put, List.setIfInBounds_toArray, List.set_cons_zero, List.set_cons_succ]
        have oA : Only [] wg22 (wg22.alloc (.cells #[] 5)) := (Only.refl [] _).alloc _
        have V25 : Hid (Own .u8 5 (wg22.alloc (.cells #[] 5)) (w.heap.size + 2) (.slice (some ⟨wg22.heap.size, 0, none⟩) 0 0) []) := hid (Own.lit .u8 5 _ (w.heap.size + 2) [] #[] 0 rfl rfl OP.out.lt (by simp) (by simp))
        obtain ⟨wb25, hwb25⟩ : ∃ X, X = (wg22.alloc (.cells #[] 5)) := ⟨_, rfl⟩
        obtain ⟨g25, hg25⟩ : ∃ X, X = wg22.heap.size := ⟨_, rfl⟩
        rw [← hwb25, ← hg25]
        rw [← hwb25, ← hg25] at V25
        rw [← hwb25] at oA
        have OR := hid (OR.out.only oA (by simp)); have OP := hid (OP.out.only oA (by simp)); have QB := hid (QB.out.trans oA); clear oA hwb25 hg25
        refine rgn.Walk.bs ?_ ?_
        · refine rgn.stepE rfl rfl (fun K hK => ?_)
          go_simp
          refine (callsOnly (ref.get41 _ (some ⟨b, off, none⟩) n c l (HL.out.only_nil QB.out) 16 (by omega) (by omega))).mono ?_
          rw [P16.out]
          rintro x1 wg24 ⟨rfl, og⟩
          refine hK _ _ (Same.only og (by have := QB.out.size; have := HBB.out; omega)) ?_
          clear hK K
          try simp only [Act.put, List.setIfInBounds_toArray, List.set_cons_zero, List.set_cons_succ]
          have OR := hid (OR.out.only og (by simp)); have OP := hid (OP.out.only og (by simp)); have QB := hid (QB.out.trans og); have V25 := hid (V25.out.only_nil og); clear og
          refine rgn.Walk.bs ?_ ?_
          · refine rgn.stepE rfl rfl (fun K hK => ?_)
            refine opApp rfl (.tmp 101) (.tmp 104) _ rfl hlp.elemB (w.heap.size + 2) _ [] rfl V25.out A3 (hh - 20) c3 ((l.take hh).drop 20) rfl (HR3.out.only_nil QB.out) HC3.out (by simp; omega) (by unfold maxLen; simp; omega) OP.out.lt ?_
            intro v1 wa29 hv hg hb
            refine hK _ _ (Same.grown hg (by have := QB.out.size; have := HBB.out; omega) (fun e => by have := (V25.out.lt _ e).1; have h9 := HBB.out; omega)) ?_
            clear hK K
            try simp only [Act.put, List.setIfInBounds_toArray, List.set_cons_zero, List.set_cons_succ]
            have OR := hid (OR.out.grown hg (fun e => by have := (V25.out.lt _ e).1; omega)); have OP := hid (OP.out.grown hg (fun e => by have := (V25.out.lt _ e).1; omega)); have QB := hid (QB.out.of_grown hg (fun k hk => .inr (by have := (V25.out.lt k hk).1; omega)))
            have V1 : Hid (Own .u8 5 wa29 (w.heap.size + 2) v1 ((l.take hh).drop 20)) := hid (by simpa using hv)
            obtain ⟨A5, c5, ev5, _, _, _, _⟩ := V1.out.slice
            rw [HOL2.out] at ev5
            subst ev5
            clear hv hg hb V25
            refine rgn.Walk.es ?_
            refine rgn.stepE rfl rfl (fun K hK => ?_)
            go_simp
            refine hK _ _ (Same.alloc _ (by have := QB.out.size; have := HBB.out; omega)) ?_
            clear hK K
            try simp only [Act.put, List.setIfInBounds_toArray, List.set_cons_zero, List.set_cons_succ]
            have oA : Only [] wa29 (wa29.alloc (.cells #[] 5)) := (Only.refl [] _).alloc _
            have V30 : Hid (Own .u8 5 (wa29.alloc (.cells #[] 5)) (w.heap.size + 2) (.slice (some ⟨wa29.heap.size, 0, none⟩) 0 0) []) := hid (Own.lit .u8 5 _ (w.heap.size + 2) [] #[] 0 rfl rfl OP.out.lt (by simp) (by simp))
            obtain ⟨wb30, hwb30⟩ : ∃ X, X = (wa29.alloc (.cells #[] 5)) := ⟨_, rfl⟩
            obtain ⟨g30, hg30⟩ : ∃ X, X = wa29.heap.size := ⟨_, rfl⟩
            rw [← hwb30, ← hg30]
            rw [← hwb30, ← hg30] at V30
            rw [← hwb30] at oA
            have NE1 : Hid ((Value.slice A5 (hh - 20) c5).ownBlock ≠ some g30) := hid (fun e => by have := (V1.out.lt _ e).2; omega)
            have OR := hid (OR.out.only oA (by simp)); have OP := hid (OP.out.only oA (by simp)); have QB := hid (QB.out.trans oA); have V1 := hid (V1.out.only_nil oA); clear oA hwb30 hg30
            refine rgn.Walk.es ?_
            refine rgn.stepE rfl rfl (fun K hK => ?_)
            refine opApp rfl (.tmp 106) (.tmp 110) _ rfl hlp.elemB (w.heap.size + 2) _ [] rfl V30.out A4 (tt - hh) c4 ((l.take tt).drop hh) rfl (HR4.out.only_nil QB.out) HC4.out (by simp; omega) (by unfold maxLen; simp; omega) OP.out.lt ?_
            intro v2 wa35 hv hg hb
            refine hK _ _ (Same.grown hg (by have := QB.out.size; have := HBB.out; omega) (fun e => by have := (V30.out.lt _ e).1; have h9 := HBB.out; omega)) ?_
            clear hK K
            try simp only [Act.put, List.setIfInBounds_toArray, List.set_cons_zero, List.set_cons_succ]
            have V1 := hid (V1.out.grown hg (Or.inr NE1.out))
            have OR := hid (OR.out.grown hg (fun e => by have := (V30.out.lt _ e).1; omega)); have OP := hid (OP.out.grown hg (fun e => by have := (V30.out.lt _ e).1; omega)); have QB := hid (QB.out.of_grown hg (fun k hk => .inr (by have := (V30.out.lt k hk).1; omega)))
            have V2 : Hid (Own .u8 5 wa35 (w.heap.size + 2) v2 ((l.take tt).drop hh)) := hid (by simpa using hv)
            obtain ⟨A6, c6, ev6, _, _, _, _⟩ := V2.out.slice
            rw [HDL2.out] at ev6
            subst ev6
            clear hv hg hb V30
            refine rgn.Walk.ys (v := ?_) rfl rfl rfl ?_ ?_
            rotate_left 1
            · intro W' hW'
              go_simp
              try with_reducible rfl
            try simp only [Act.put, List.setIfInBounds_toArray, List.set_cons_zero, List.set_cons_succ]
            refine rgn.Walk.es ?_
            refine rgn.stepE rfl rfl (fun K hK => ?_)
            refine opStoreOb rfl 26 _ _ rfl w.heap.size #[.int .i64 sv, .int .i64 v4, .bool wh, .bool mo, .int .i64 (b13 * 8), .int .i64 lf, .int .i64 pr, .int .u32 v12, .int .u32 v16, .slice A5 (hh - 20) c5, .slice A6 (tt - hh) c6] rfl rfl _ _ OR.out rfl (by kernel_rfl) (by simp [Value.oneCell']) (fun W9 hW9 => ?_)
            refine hK _ _ (((Only.refl [w.heap.size] _).eq_all hW9 (Or.inl (by simp))).block b (by have := QB.out.size; have := HBB.out; omega) (by simp; have := HBB.out; omega)) ?_
            clear hK K
            try simp only [Act.put, List.setIfInBounds_toArray, List.set_cons_zero, List.set_cons_succ]
            have OR5 := hid (OR.out.eq_all hW9 rfl); have QB5 := hid (QB.out.eq_all hW9 (Or.inr (by simp))); have QV5 : Hid (Only [w.heap.size] _ W9) := hid ((Only.refl _ _).eq_all hW9 (Or.inl (by simp))); clear hW9
            refine rgn.Walk.es ?_
            refine rgn.stepE rfl rfl (fun K hK => ?_)
            go_simp
            refine hK _ _ ((Same.refl b) _) ?_
            clear hK K
            try simp only [Act.put, List.setIfInBounds_toArray, List.set_cons_zero, List.set_cons_succ]
            refine rgn.Walk.zs (NoPanic.normal ?_)
            have HV5 := hid (V1.out.only QV5.out (fun i hi => by have h9 := (V1.out.lt i hi).1; simp; omega)); have HV6 := hid (V2.out.only QV5.out (fun i hi => by have h9 := (V2.out.lt i hi).1; simp; omega))
            have r0 := OR5.out.cell 0; have r1 := OR5.out.cell 1; have r2 := OR5.out.cell 2; have r3 := OR5.out.cell 3; have r4 := OR5.out.cell 4; have r5 := OR5.out.cell 5; have r6 := OR5.out.cell 6; have r7 := OR5.out.cell 7; have r8 := OR5.out.cell 8; have r9 := OR5.out.cell 9; have r10 := OR5.out.cell 10
            go_wp2
            exact bodyPost_ret (v := .tuple #[.agg #[.int .i64 sv, .int .i64 v4, .bool wh, .bool mo, .int .i64 (b13 * 8), .int .i64 lf, .int .i64 pr, .int .u32 v12, .int .u32 v16, .slice A5 (hh - 20) c5, .slice A6 (tt - hh) c6], .int .i64 0]) (by simp [results, Tryd.results19, go_sem, *]) rfl ⟨_, _, rfl, HV5.out.mono_base (by omega), HV6.out.mono_base (by omega), QB5.out⟩
          · refine rgn.stepE rfl rfl (fun K hK => ?_)
            go_simp
            refine hK _ _ (Same.alloc _ (by have := QB.out.size; have := HBB.out; omega)) ?_
            clear hK K
            try simp only [Act.put, List.setIfInBounds_toArray, List.set_cons_zero, List.set_cons_succ]
            have oA : Only [] wg24 (wg24.alloc (.cells #[] 5)) := (Only.refl [] _).alloc _
            have V30 : Hid (Own .u8 5 (wg24.alloc (.cells #[] 5)) (w.heap.size + 2) (.slice (some ⟨wg24.heap.size, 0, none⟩) 0 0) []) := hid (Own.lit .u8 5 _ (w.heap.size + 2) [] #[] 0 rfl rfl OP.out.lt (by simp) (by simp))
            obtain ⟨wb30, hwb30⟩ : ∃ X, X = (wg24.alloc (.cells #[] 5)) := ⟨_, rfl⟩
            obtain ⟨g30, hg30⟩ : ∃ X, X = wg24.heap.size := ⟨_, rfl⟩
            rw [← hwb30, ← hg30]
            rw [← hwb30, ← hg30] at V30
            rw [← hwb30] at oA
            have NE : Hid (g25 ≠ g30) := hid (by have := (V25.out.lt g25 rfl).2; omega)
            have OR := hid (OR.out.only oA (by simp)); have OP := hid (OP.out.only oA (by simp)); have QB := hid (QB.out.trans oA); have V25 := hid (V25.out.only_nil oA); clear oA hwb30 hg30
            refine rgn.Walk.es ?_
            refine rgn.stepE rfl rfl (fun K hK => ?_)
            refine opApp rfl (.tmp 101) (.tmp 104) _ rfl hlp.elemB (w.heap.size + 2) _ [] rfl V25.out A3 (hh - 20) c3 ((l.take hh).drop 20) rfl (HR3.out.only_nil QB.out) HC3.out (by simp; omega) (by unfold maxLen; simp; omega) OP.out.lt ?_
            intro v1 wa29 hv hg hb
            refine hK _ _ (Same.grown hg (by have := QB.out.size; have := HBB.out; omega) (fun e => by have := (V25.out.lt _ e).1; have h9 := HBB.out; omega)) ?_
            clear hK K
            try simp only [Act.put, List.setIfInBounds_toArray, List.set_cons_zero, List.set_cons_succ]
            have NE1 : Hid (v1.ownBlock ≠ some g30) := hid (ne_blk (g := g25) hb NE.out (V30.out.lt g30 rfl).2)
            have V30 := hid (V30.out.grown hg (Or.inr (fun e => NE.out (Option.some.inj (show some g30 = some g25 from e)).symm)))
            have OR := hid (OR.out.grown hg (fun e => by have := (V25.out.lt _ e).1; omega)); have OP := hid (OP.out.grown hg (fun e => by have := (V25.out.lt _ e).1; omega)); have QB := hid (QB.out.of_grown hg (fun k hk => .inr (by have := (V25.out.lt k hk).1; omega)))
            have V1 : Hid (Own .u8 5 wa29 (w.heap.size + 2) v1 ((l.take hh).drop 20)) := hid (by simpa using hv)
            obtain ⟨A5, c5, ev5, _, _, _, _⟩ := V1.out.slice
            rw [HOL2.out] at ev5
            subst ev5
            clear hv hg hb V25
            refine rgn.Walk.es ?_
            refine rgn.stepE rfl rfl (fun K hK => ?_)
            refine opApp rfl (.tmp 106) (.tmp 110) _ rfl hlp.elemB (w.heap.size + 2) _ [] rfl V30.out A4 (tt - hh) c4 ((l.take tt).drop hh) rfl (HR4.out.only_nil QB.out) HC4.out (by simp; omega) (by unfold maxLen; simp; omega) OP.out.lt ?_
            intro v2 wa35 hv hg hb
            refine hK _ _ (Same.grown hg (by have := QB.out.size; have := HBB.out; omega) (fun e => by have := (V30.out.lt _ e).1; have h9 := HBB.out; omega)) ?_
            clear hK K
            try simp only [Act.put, List.setIfInBounds_toArray, List.set_cons_zero, List.set_cons_succ]
            have V1 := hid (V1.out.grown hg (Or.inr NE1.out))
            have OR := hid (OR.out.grown hg (fun e => by have := (V30.out.lt _ e).1; omega)); have OP := hid (OP.out.grown hg (fun e => by have := (V30.out.lt _ e).1; omega)); have QB := hid (QB.out.of_grown hg (fun k hk => .inr (by have := (V30.out.lt k hk).1; omega)))
            have V2 : Hid (Own .u8 5 wa35 (w.heap.size + 2) v2 ((l.take tt).drop hh)) := hid (by simpa using hv)
            obtain ⟨A6, c6, ev6, _, _, _, _⟩ := V2.out.slice
            rw [HDL2.out] at ev6
            subst ev6
            clear hv hg hb V30
            refine rgn.Walk.ys (v := ?_) rfl rfl rfl ?_ ?_
            rotate_left 1
            · intro W' hW'
              go_simp
              try with_reducible rfl
            try simp only [Act.put, List.setIfInBounds_toArray, List.set_cons_zero, List.set_cons_succ]
            refine rgn.Walk.es ?_
            refine rgn.stepE rfl rfl (fun K hK => ?_)
            refine opStoreOb rfl 26 _ _ rfl w.heap.size #[.int .i64 sv, .int .i64 v4, .bool wh, .bool mo, .int .i64 (b13 * 8), .int .i64 lf, .int .i64 pr, .int .u32 v12, .int .u32 v16, .slice A5 (hh - 20) c5, .slice A6 (tt - hh) c6] rfl rfl _ _ OR.out rfl (by kernel_rfl) (by simp [Value.oneCell']) (fun W9 hW9 => ?_)
            refine hK _ _ (((Only.refl [w.heap.size] _).eq_all hW9 (Or.inl (by simp))).block b (by have := QB.out.size; have := HBB.out; omega) (by simp; have := HBB.out; omega)) ?_
            clear hK K
            try simp only [Act.put, List.setIfInBounds_toArray, List.set_cons_zero, List.set_cons_succ]
            have OR5 := hid (OR.out.eq_all hW9 rfl); have QB5 := hid (QB.out.eq_all hW9 (Or.inr (by simp))); have QV5 : Hid (Only [w.heap.size] _ W9) := hid ((Only.refl _ _).eq_all hW9 (Or.inl (by simp))); clear hW9
            refine rgn.Walk.es ?_
            refine rgn.stepE rfl rfl (fun K hK => ?_)
            go_simp
            refine hK _ _ ((Same.refl b) _) ?_
            clear hK K
            try simp only [Act.put, List.setIfInBounds_toArray, List.set_cons_zero, List.set_cons_succ]
            refine rgn.Walk.zs (NoPanic.normal ?_)
            have HV5 := hid (V1.out.only QV5.out (fun i hi => by have h9 := (V1.out.lt i hi).1; simp; omega)); have HV6 := hid (V2.out.only QV5.out (fun i hi => by have h9 := (V2.out.lt i hi).1; simp; omega))
            have r0 := OR5.out.cell 0; have r1 := OR5.out.cell 1; have r2 := OR5.out.cell 2; have r3 := OR5.out.cell 3; have r4 := OR5.out.cell 4; have r5 := OR5.out.cell 5; have r6 := OR5.out.cell 6; have r7 := OR5.out.cell 7; have r8 := OR5.out.cell 8; have r9 := OR5.out.cell 9; have r10 := OR5.out.cell 10
            go_wp2
            exact bodyPost_ret (v := .tuple #[.agg #[.int .i64 sv, .int .i64 v4, .bool wh, .bool mo, .int .i64 (b13 * 8), .int .i64 lf, .int .i64 pr, .int .u32 v12, .int .u32 v16, .slice A5 (hh - 20) c5, .slice A6 (tt - hh) c6], .int .i64 0]) (by simp [results, Tryd.results19, go_sem, *]) rfl ⟨_, _, rfl, HV5.out.mono_base (by omega), HV6.out.mono_base (by omega), QB5.out⟩
        · refine rgn.stepE rfl rfl (fun K hK => ?_)
          go_simp
          refine hK _ _ (Same.alloc _ (by have := QB.out.size; have := HBB.out; omega)) ?_
          clear hK K
          try simp only [Act.put, List.setIfInBounds_toArray, List.set_cons_zero, List.set_cons_succ]
          have oA : Only [] wb25 (wb25.alloc (.cells #[] 5)) := (Only.refl [] _).alloc _
          have V30 : Hid (Own .u8 5 (wb25.alloc (.cells #[] 5)) (w.heap.size + 2) (.slice (some ⟨wb25.heap.size, 0, none⟩) 0 0) []) := hid (Own.lit .u8 5 _ (w.heap.size + 2) [] #[] 0 rfl rfl OP.out.lt (by simp) (by simp))
          obtain ⟨wb30, hwb30⟩ : ∃ X, X = (wb25.alloc (.cells #[] 5)) := ⟨_, rfl⟩
          obtain ⟨g30, hg30⟩ : ∃ X, X = wb25.heap.size := ⟨_, rfl⟩
          rw [← hwb30, ← hg30]
          rw [← hwb30, ← hg30] at V30
          rw [← hwb30] at oA
          have NE : Hid (g25 ≠ g30) := hid (by have := (V25.out.lt g25 rfl).2; omega)
          have OR := hid (OR.out.only oA (by simp)); have OP := hid (OP.out.only oA (by simp)); have QB := hid (QB.out.trans oA); have V25 := hid (V25.out.only_nil oA); clear oA hwb30 hg30
          refine rgn.Walk.es ?_
          refine rgn.stepE rfl rfl (fun K hK => ?_)
          go_simp
          refine (callsOnly (ref.get41 _ (some ⟨b, off, none⟩) n c l (HL.out.only_nil QB.out) 16 (by omega) (by omega))).mono ?_
          rw [P16.out]
          rintro x1 wg24 ⟨rfl, og⟩
          refine hK _ _ (Same.only og (by have := QB.out.size; have := HBB.out; omega)) ?_
          clear hK K
          try simp only [Act.put, List.setIfInBounds_toArray, List.set_cons_zero, List.set_cons_succ]
          have OR := hid (OR.out.only og (by simp)); have OP := hid (OP.out.only og (by simp)); have QB := hid (QB.out.trans og); have V25 := hid (V25.out.only_nil og); have V30 := hid (V30.out.only_nil og); clear og
          refine rgn.Walk.es ?_
          refine rgn.stepE rfl rfl (fun K hK => ?_)
          refine opApp rfl (.tmp 101) (.tmp 104) _ rfl hlp.elemB (w.heap.size + 2) _ [] rfl V25.out A3 (hh - 20) c3 ((l.take hh).drop 20) rfl (HR3.out.only_nil QB.out) HC3.out (by simp; omega) (by unfold maxLen; simp; omega) OP.out.lt ?_
          intro v1 wa29 hv hg hb
          refine hK _ _ (Same.grown hg (by have := QB.out.size; have := HBB.out; omega) (fun e => by have := (V25.out.lt _ e).1; have h9 := HBB.out; omega)) ?_
          clear hK K
          try simp only [Act.put, List.setIfInBounds_toArray, List.set_cons_zero, List.set_cons_succ]
          have NE1 : Hid (v1.ownBlock ≠ some g30) := hid (ne_blk (g := g25) hb NE.out (V30.out.lt g30 rfl).2)
          have V30 := hid (V30.out.grown hg (Or.inr (fun e => NE.out (Option.some.inj (show some g30 = some g25 from e)).symm)))
          have OR := hid (OR.out.grown hg (fun e => by have := (V25.out.lt _ e).1; omega)); have OP := hid (OP.out.grown hg (fun e => by have := (V25.out.lt _ e).1; omega)); have QB := hid (QB.out.of_grown hg (fun k hk => .inr (by have := (V25.out.lt k hk).1; omega)))
          have V1 : Hid (Own .u8 5 wa29 (w.heap.size + 2) v1 ((l.take hh).drop 20)) := hid (by simpa using hv)
          obtain ⟨A5, c5, ev5, _, _, _, _⟩ := V1.out.slice
          rw [HOL2.out] at ev5
          subst ev5
          clear hv hg hb V25
          refine rgn.Walk.es ?_
          refine rgn.stepE rfl rfl (fun K hK => ?_)
          refine opApp rfl (.tmp 106) (.tmp 110) _ rfl hlp.elemB (w.heap.size + 2) _ [] rfl V30.out A4 (tt - hh) c4 ((l.take tt).drop hh) rfl (HR4.out.only_nil QB.out) HC4.out (by simp; omega) (by unfold maxLen; simp; omega) OP.out.lt ?_
          intro v2 wa35 hv hg hb
          refine hK _ _ (Same.grown hg (by have := QB.out.size; have := HBB.out; omega) (fun e => by have := (V30.out.lt _ e).1; have h9 := HBB.out; omega)) ?_
          clear hK K
          try simp only [Act.put, List.setIfInBounds_toArray, List.set_cons_zero, List.set_cons_succ]
          have V1 := hid (V1.out.grown hg (Or.inr NE1.out))
          have OR := hid (OR.out.grown hg (fun e => by have := (V30.out.lt _ e).1; omega)); have OP := hid (OP.out.grown hg (fun e => by have := (V30.out.lt _ e).1; omega)); have QB := hid (QB.out.of_grown hg (fun k hk => .inr (by have := (V30.out.lt k hk).1; omega)))
          have V2 : Hid (Own .u8 5 wa35 (w.heap.size + 2) v2 ((l.take tt).drop hh)) := hid (by simpa using hv)
          obtain ⟨A6, c6, ev6, _, _, _, _⟩ := V2.out.slice
          rw [HDL2.out] at ev6
          subst ev6
          clear hv hg hb V30
          refine rgn.Walk.ys (v := ?_) rfl rfl rfl ?_ ?_
          rotate_left 1
          · intro W' hW'
            go_simp
            try with_reducible rfl
          try simp only [Act.put, List.setIfInBounds_toArray, List.set_cons_zero, List.set_cons_succ]
          refine rgn.Walk.es ?_
          refine rgn.stepE rfl rfl (fun K hK => ?_)
          refine opStoreOb rfl 26 _ _ rfl w.heap.size #[.int .i64 sv, .int .i64 v4, .bool wh, .bool mo, .int .i64 (b13 * 8), .int .i64 lf, .int .i64 pr, .int .u32 v12, .int .u32 v16, .slice A5 (hh - 20) c5, .slice A6 (tt - hh) c6] rfl rfl _ _ OR.out rfl (by kernel_rfl) (by simp [Value.oneCell']) (fun W9 hW9 => ?_)
          refine hK _ _ (((Only.refl [w.heap.size] _).eq_all hW9 (Or.inl (by simp))).block b (by have := QB.out.size; have := HBB.out; omega) (by simp; have := HBB.out; omega)) ?_
          clear hK K
          try simp only [Act.put, List.setIfInBounds_toArray, List.set_cons_zero, List.set_cons_succ]
          have OR5 := hid (OR.out.eq_all hW9 rfl); have QB5 := hid (QB.out.eq_all hW9 (Or.inr (by simp))); have QV5 : Hid (Only [w.heap.size] _ W9) := hid ((Only.refl _ _).eq_all hW9 (Or.inl (by simp))); clear hW9
          refine rgn.Walk.es ?_
          refine rgn.stepE rfl rfl (fun K hK => ?_)
          go_simp
          refine hK _ _ ((Same.refl b) _) ?_
          clear hK K
          try simp only [Act.put, List.setIfInBounds_toArray, List.set_cons_zero, List.set_cons_succ]
          refine rgn.Walk.zs (NoPanic.normal ?_)
          have HV5 := hid (V1.out.only QV5.out (fun i hi => by have h9 := (V1.out.lt i hi).1; simp; omega)); have HV6 := hid (V2.out.only QV5.out (fun i hi => by have h9 := (V2.out.lt i hi).1; simp; omega))
          have r0 := OR5.out.cell 0; have r1 := OR5.out.cell 1; have r2 := OR5.out.cell 2; have r3 := OR5.out.cell 3; have r4 := OR5.out.cell 4; have r5 := OR5.out.cell 5; have r6 := OR5.out.cell 6; have r7 := OR5.out.cell 7; have r8 := OR5.out.cell 8; have r9 := OR5.out.cell 9; have r10 := OR5.out.cell 10
          go_wp2
          exact bodyPost_ret (v := .tuple #[.agg #[.int .i64 sv, .int .i64 v4, .bool wh, .bool mo, .int .i64 (b13 * 8), .int .i64 lf, .int .i64 pr, .int .u32 v12, .int .u32 v16, .slice A5 (hh - 20) c5, .slice A6 (tt - hh) c6], .int .i64 0]) (by simp [results, Tryd.results19, go_sem, *]) rfl ⟨_, _, rfl, HV5.out.mono_base (by omega), HV6.out.mono_base (by omega), QB5.out⟩
      · refine rgn.stepE rfl rfl (fun K hK => ?_)
        go_simp
        refine hK _ _ (Same.alloc _ (by have := QB.out.size; have := HBB.out; omega)) ?_
        clear hK K
        try simp only [Act.put, List.setIfInBounds_toArray, List.set_cons_zero, List.set_cons_succ]
        have oA : Only [] wg22 (wg22.alloc (.cells #[] 5)) := (Only.refl [] _).alloc _
        have V30 : Hid (Own .u8 5 (wg22.alloc (.cells #[] 5)) (w.heap.size + 2) (.slice (some ⟨wg22.heap.size, 0, none⟩) 0 0) []) := hid (Own.lit .u8 5 _ (w.heap.size + 2) [] #[] 0 rfl rfl OP.out.lt (by simp) (by simp))
        obtain ⟨wb30, hwb30⟩ : ∃ X, X = (wg22.alloc (.cells #[] 5)) := ⟨_, rfl⟩
        obtain ⟨g30, hg30⟩ : ∃ X, X = wg22.heap.size := ⟨_, rfl⟩
        rw [← hwb30, ← hg30]
        rw [← hwb30, ← hg30] at V30
        rw [← hwb30] at oA
        have OR := hid (OR.out.only oA (by simp)); have OP := hid (OP.out.only oA (by simp)); have QB := hid (QB.out.trans oA); clear oA hwb30 hg30
        refine rgn.Walk.bs ?_ ?_
        · refine rgn.stepE rfl rfl (fun K hK => ?_)
          go_simp
          refine (callsOnly (ref.get41 _ (some ⟨b, off, none⟩) n c l (HL.out.only_nil QB.out) 16 (by omega) (by omega))).mono ?_
          rw [P16.out]
          rintro x1 wg24 ⟨rfl, og⟩
          refine hK _ _ (Same.only og (by have := QB.out.size; have := HBB.out; omega)) ?_
          clear hK K
          try simp only [Act.put, List.setIfInBounds_toArray, List.set_cons_zero, List.set_cons_succ]
          have OR := hid (OR.out.only og (by simp)); have OP := hid (OP.out.only og (by simp)); have QB := hid (QB.out.trans og); have V30 := hid (V30.out.only_nil og); clear og
          refine rgn.Walk.es ?_
          refine rgn.stepE rfl rfl (fun K hK => ?_)
          go_simp
          refine hK _ _ (Same.alloc _ (by have := QB.out.size; have := HBB.out; omega)) ?_
          clear hK K
          try simp only [Act.put, List.setIfInBounds_toArray, List.set_cons_zero, List.set_cons_succ]
          have oA : Only [] wg24 (wg24.alloc (.cells #[] 5)) := (Only.refl [] _).alloc _
          have V25 : Hid (Own .u8 5 (wg24.alloc (.cells #[] 5)) (w.heap.size + 2) (.slice (some ⟨wg24.heap.size, 0, none⟩) 0 0) []) := hid (Own.lit .u8 5 _ (w.heap.size + 2) [] #[] 0 rfl rfl OP.out.lt (by simp) (by simp))
          obtain ⟨wb25, hwb25⟩ : ∃ X, X = (wg24.alloc (.cells #[] 5)) := ⟨_, rfl⟩
          obtain ⟨g25, hg25⟩ : ∃ X, X = wg24.heap.size := ⟨_, rfl⟩
          rw [← hwb25, ← hg25]
          rw [← hwb25, ← hg25] at V25
          rw [← hwb25] at oA
          have NE : Hid (g25 ≠ g30) := hid (by have := (V30.out.lt g30 rfl).2; omega)
          have OR := hid (OR.out.only oA (by simp)); have OP := hid (OP.out.only oA (by simp)); have QB := hid (QB.out.trans oA); have V30 := hid (V30.out.only_nil oA); clear oA hwb25 hg25
          refine rgn.Walk.es ?_
          refine rgn.stepE rfl rfl (fun K hK => ?_)
          refine opApp rfl (.tmp 101) (.tmp 104) _ rfl hlp.elemB (w.heap.size + 2) _ [] rfl V25.out A3 (hh - 20) c3 ((l.take hh).drop 20) rfl (HR3.out.only_nil QB.out) HC3.out (by simp; omega) (by unfold maxLen; simp; omega) OP.out.lt ?_
          intro v1 wa29 hv hg hb
          refine hK _ _ (Same.grown hg (by have := QB.out.size; have := HBB.out; omega) (fun e => by have := (V25.out.lt _ e).1; have h9 := HBB.out; omega)) ?_
          clear hK K
          try simp only [Act.put, List.setIfInBounds_toArray, List.set_cons_zero, List.set_cons_succ]
          have NE1 : Hid (v1.ownBlock ≠ some g30) := hid (ne_blk (g := g25) hb NE.out (V30.out.lt g30 rfl).2)
          have V30 := hid (V30.out.grown hg (Or.inr (fun e => NE.out (Option.some.inj (show some g30 = some g25 from e)).symm)))
          have OR := hid (OR.out.grown hg (fun e => by have := (V25.out.lt _ e).1; omega)); have OP := hid (OP.out.grown hg (fun e => by have := (V25.out.lt _ e).1; omega)); have QB := hid (QB.out.of_grown hg (fun k hk => .inr (by have := (V25.out.lt k hk).1; omega)))
          have V1 : Hid (Own .u8 5 wa29 (w.heap.size + 2) v1 ((l.take hh).drop 20)) := hid (by simpa using hv)
          obtain ⟨A5, c5, ev5, _, _, _, _⟩ := V1.out.slice
          rw [HOL2.out] at ev5
          subst ev5
          clear hv hg hb V25
          refine rgn.Walk.es ?_
          refine rgn.stepE rfl rfl (fun K hK => ?_)
          refine opApp rfl (.tmp 106) (.tmp 110) _ rfl hlp.elemB (w.heap.size + 2) _ [] rfl V30.out A4 (tt - hh) c4 ((l.take tt).drop hh) rfl (HR4.out.only_nil QB.out) HC4.out (by simp; omega) (by unfold maxLen; simp; omega) OP.out.lt ?_
          intro v2 wa35 hv hg hb
          refine hK _ _ (Same.grown hg (by have := QB.out.size; have := HBB.out; omega) (fun e => by have := (V30.out.lt _ e).1; have h9 := HBB.out; omega)) ?_
          clear hK K
          try simp only [Act.put, List.setIfInBounds_toArray, List.set_cons_zero, List.set_cons_succ]
          have V1 := hid (V1.out.grown hg (Or.inr NE1.out))
          have OR := hid (OR.out.grown hg (fun e => by have := (V30.out.lt _ e).1; omega)); have OP := hid (OP.out.grown hg (fun e => by have := (V30.out.lt _ e).1; omega)); have QB := hid (QB.out.of_grown hg (fun k hk => .inr (by have := (V30.out.lt k hk).1; omega)))
          have V2 : Hid (Own .u8 5 wa35 (w.heap.size + 2) v2 ((l.take tt).drop hh)) := hid (by simpa using hv)
          obtain ⟨A6, c6, ev6, _, _, _, _⟩ := V2.out.slice
          rw [HDL2.out] at ev6
          subst ev6
          clear hv hg hb V30
          refine rgn.Walk.ys (v := ?_) rfl rfl rfl ?_ ?_
          rotate_left 1
          · intro W' hW'
            go_simp
            try with_reducible rfl
          try simp only [Act.put, List.setIfInBounds_toArray, List.set_cons_zero, List.set_cons_succ]
          refine rgn.Walk.es ?_
          refine rgn.stepE rfl rfl (fun K hK => ?_)
          refine opStoreOb rfl 26 _ _ rfl w.heap.size #[.int .i64 sv, .int .i64 v4, .bool wh, .bool mo, .int .i64 (b13 * 8), .int .i64 lf, .int .i64 pr, .int .u32 v12, .int .u32 v16, .slice A5 (hh - 20) c5, .slice A6 (tt - hh) c6] rfl rfl _ _ OR.out rfl (by kernel_rfl) (by simp [Value.oneCell']) (fun W9 hW9 => ?_)
          refine hK _ _ (((Only.refl [w.heap.size] _).eq_all hW9 (Or.inl (by simp))).block b (by have := QB.out.size; have := HBB.out; omega) (by simp; have := HBB.out; omega)) ?_
          clear hK K
          try simp only [Act.put, List.setIfInBounds_toArray, List.set_cons_zero, List.set_cons_succ]
          have OR5 := hid (OR.out.eq_all hW9 rfl); have QB5 := hid (QB.out.eq_all hW9 (Or.inr (by simp))); have QV5 : Hid (Only [w.heap.size] _ W9) := hid ((Only.refl _ _).eq_all hW9 (Or.inl (by simp))); clear hW9
          refine rgn.Walk.es ?_
          refine rgn.stepE rfl rfl (fun K hK => ?_)
          go_simp
          refine hK _ _ ((Same.refl b) _) ?_
          clear hK K
          try simp only [Act.put, List.setIfInBounds_toArray, List.set_cons_zero, List.set_cons_succ]
          refine rgn.Walk.zs (NoPanic.normal ?_)
          have HV5 := hid (V1.out.only QV5.out (fun i hi => by have h9 := (V1.out.lt i hi).1; simp; omega)); have HV6 := hid (V2.out.only QV5.out (fun i hi => by have h9 := (V2.out.lt i hi).1; simp; omega))
          have r0 := OR5.out.cell 0; have r1 := OR5.out.cell 1; have r2 := OR5.out.cell 2; have r3 := OR5.out.cell 3; have r4 := OR5.out.cell 4; have r5 := OR5.out.cell 5; have r6 := OR5.out.cell 6; have r7 := OR5.out.cell 7; have r8 := OR5.out.cell 8; have r9 := OR5.out.cell 9; have r10 := OR5.out.cell 10
          go_wp2
          exact bodyPost_ret (v := .tuple #[.agg #[.int .i64 sv, .int .i64 v4, .bool wh, .bool mo, .int .i64 (b13 * 8), .int .i64 lf, .int .i64 pr, .int .u32 v12, .int .u32 v16, .slice A5 (hh - 20) c5, .slice A6 (tt - hh) c6], .int .i64 0]) (by simp [results, Tryd.results19, go_sem, *]) rfl ⟨_, _, rfl, HV5.out.mono_base (by omega), HV6.out.mono_base (by omega), QB5.out⟩
        · refine rgn.stepE rfl rfl (fun K hK => ?_)
          go_simp
          refine hK _ _ (Same.alloc _ (by have := QB.out.size; have := HBB.out; omega)) ?_
          clear hK K
          try simp only [Act.put, List.setIfInBounds_toArray, List.set_cons_zero, List.set_cons_succ]
          have oA : Only [] wb30 (wb30.alloc (.cells #[] 5)) := (Only.refl [] _).alloc _
          have V25 : Hid (Own .u8 5 (wb30.alloc (.cells #[] 5)) (w.heap.size + 2) (.slice (some ⟨wb30.heap.size, 0, none⟩) 0 0) []) := hid (Own.lit .u8 5 _ (w.heap.size + 2) [] #[] 0 rfl rfl OP.out.lt (by simp) (by simp))
          obtain ⟨wb25, hwb25⟩ : ∃ X, X = (wb30.alloc (.cells #[] 5)) := ⟨_, rfl⟩
          obtain ⟨g25, hg25⟩ : ∃ X, X = wb30.heap.size := ⟨_, rfl⟩
          rw [← hwb25, ← hg25]
          rw [← hwb25, ← hg25] at V25
          rw [← hwb25] at oA
          have NE : Hid (g25 ≠ g30) := hid (by have := (V30.out.lt g30 rfl).2; omega)
          have OR := hid (OR.out.only oA (by simp)); have OP := hid (OP.out.only oA (by simp)); have QB := hid (QB.out.trans oA); have V30 := hid (V30.out.only_nil oA); clear oA hwb25 hg25
          refine rgn.Walk.es ?_
          refine rgn.stepE rfl rfl (fun K hK => ?_)
          go_simp
          refine (callsOnly (ref.get41 _ (some ⟨b, off, none⟩) n c l (HL.out.only_nil QB.out) 16 (by omega) (by omega))).mono ?_
          rw [P16.out]
          rintro x1 wg24 ⟨rfl, og⟩
          refine hK _ _ (Same.only og (by have := QB.out.size; have := HBB.out; omega)) ?_
          clear hK K
          try simp only [Act.put, List.setIfInBounds_toArray, List.set_cons_zero, List.set_cons_succ]
          have OR := hid (OR.out.only og (by simp)); have OP := hid (OP.out.only og (by simp)); have QB := hid (QB.out.trans og); have V25 := hid (V25.out.only_nil og); have V30 := hid (V30.out.only_nil og); clear og
          refine rgn.Walk.es ?_
          refine rgn.stepE rfl rfl (fun K hK => ?_)
          refine opApp rfl (.tmp 101) (.tmp 104) _ rfl hlp.elemB (w.heap.size + 2) _ [] rfl V25.out A3 (hh - 20) c3 ((l.take hh).drop 20) rfl (HR3.out.only_nil QB.out) HC3.out (by simp; omega) (by unfold maxLen; simp; omega) OP.out.lt ?_
          intro v1 wa29 hv hg hb
          refine hK _ _ (Same.grown hg (by have := QB.out.size; have := HBB.out; omega) (fun e => by have := (V25.out.lt _ e).1; have h9 := HBB.out; omega)) ?_
          clear hK K
          try simp only [Act.put, List.setIfInBounds_toArray, List.set_cons_zero, List.set_cons_succ]
          have NE1 : Hid (v1.ownBlock ≠ some g30) := hid (ne_blk (g := g25) hb NE.out (V30.out.lt g30 rfl).2)
          have V30 := hid (V30.out.grown hg (Or.inr (fun e => NE.out (Option.some.inj (show some g30 = some g25 from e)).symm)))
          have OR := hid (OR.out.grown hg (fun e => by have := (V25.out.lt _ e).1; omega)); have OP := hid (OP.out.grown hg (fun e => by have := (V25.out.lt _ e).1; omega)); have QB := hid (QB.out.of_grown hg (fun k hk => .inr (by have := (V25.out.lt k hk).1; omega)))
          have V1 : Hid (Own .u8 5 wa29 (w.heap.size + 2) v1 ((l.take hh).drop 20)) := hid (by simpa using hv)
          obtain ⟨A5, c5, ev5, _, _, _, _⟩ := V1.out.slice
          rw [HOL2.out] at ev5
          subst ev5
          clear hv hg hb V25
          refine rgn.Walk.es ?_
          refine rgn.stepE rfl rfl (fun K hK => ?_)
          refine opApp rfl (.tmp 106) (.tmp 110) _ rfl hlp.elemB (w.heap.size + 2) _ [] rfl V30.out A4 (tt - hh) c4 ((l.take tt).drop hh) rfl (HR4.out.only_nil QB.out) HC4.out (by simp; omega) (by unfold maxLen; simp; omega) OP.out.lt ?_
          intro v2 wa35 hv hg hb
          refine hK _ _ (Same.grown hg (by have := QB.out.size; have := HBB.out; omega) (fun e => by have := (V30.out.lt _ e).1; have h9 := HBB.out; omega)) ?_
          clear hK K
          try simp only [Act.put, List.setIfInBounds_toArray, List.set_cons_zero, List.set_cons_succ]
          have V1 := hid (V1.out.grown hg (Or.inr NE1.out))
          have OR := hid (OR.out.grown hg (fun e => by have := (V30.out.lt _ e).1; omega)); have OP := hid (OP.out.grown hg (fun e => by have := (V30.out.lt _ e).1; omega)); have QB := hid (QB.out.of_grown hg (fun k hk => .inr (by have := (V30.out.lt k hk).1; omega)))
          have V2 : Hid (Own .u8 5 wa35 (w.heap.size + 2) v2 ((l.take tt).drop hh)) := hid (by simpa using hv)
          obtain ⟨A6, c6, ev6, _, _, _, _⟩ := V2.out.slice
          rw [HDL2.out] at ev6
          subst ev6
          clear hv hg hb V30
          refine rgn.Walk.ys (v := ?_) rfl rfl rfl ?_ ?_
          rotate_left 1
          · intro W' hW'
            go_simp
            try with_reducible rfl
          try simp only [Act.put, List.setIfInBounds_toArray, List.set_cons_zero, List.set_cons_succ]
          refine rgn.Walk.es ?_
          refine rgn.stepE rfl rfl (fun K hK => ?_)
          refine opStoreOb rfl 26 _ _ rfl w.heap.size #[.int .i64 sv, .int .i64 v4, .bool wh, .bool mo, .int .i64 (b13 * 8), .int .i64 lf, .int .i64 pr, .int .u32 v12, .int .u32 v16, .slice A5 (hh - 20) c5, .slice A6 (tt - hh) c6] rfl rfl _ _ OR.out rfl (by kernel_rfl) (by simp [Value.oneCell']) (fun W9 hW9 => ?_)
          refine hK _ _ (((Only.refl [w.heap.size] _).eq_all hW9 (Or.inl (by simp))).block b (by have := QB.out.size; have := HBB.out; omega) (by simp; have := HBB.out; omega)) ?_
          clear hK K
          try simp only [Act.put, List.setIfInBounds_toArray, List.set_cons_zero, List.set_cons_succ]
          have OR5 := hid (OR.out.eq_all hW9 rfl); have QB5 := hid (QB.out.eq_all hW9 (Or.inr (by simp))); have QV5 : Hid (Only [w.heap.size] _ W9) := hid ((Only.refl _ _).eq_all hW9 (Or.inl (by simp))); clear hW9
          refine rgn.Walk.es ?_
          refine rgn.stepE rfl rfl (fun K hK => ?_)
          go_simp
          refine hK _ _ ((Same.refl b) _) ?_
          clear hK K
          try simp only [Act.put, List.setIfInBounds_toArray, List.set_cons_zero, List.set_cons_succ]
          refine rgn.Walk.zs (NoPanic.normal ?_)
          have HV5 := hid (V1.out.only QV5.out (fun i hi => by have h9 := (V1.out.lt i hi).1; simp; omega)); have HV6 := hid (V2.out.only QV5.out (fun i hi => by have h9 := (V2.out.lt i hi).1; simp; omega))
          have r0 := OR5.out.cell 0; have r1 := OR5.out.cell 1; have r2 := OR5.out.cell 2; have r3 := OR5.out.cell 3; have r4 := OR5.out.cell 4; have r5 := OR5.out.cell 5; have r6 := OR5.out.cell 6; have r7 := OR5.out.cell 7; have r8 := OR5.out.cell 8; have r9 := OR5.out.cell 9; have r10 := OR5.out.cell 10
          go_wp2
          exact bodyPost_ret (v := .tuple #[.agg #[.int .i64 sv, .int .i64 v4, .bool wh, .bool mo, .int .i64 (b13 * 8), .int .i64 lf, .int .i64 pr, .int .u32 v12, .int .u32 v16, .slice A5 (hh - 20) c5, .slice A6 (tt - hh) c6], .int .i64 0]) (by simp [results, Tryd.results19, go_sem, *]) rfl ⟨_, _, rfl, HV5.out.mono_base (by omega), HV6.out.mono_base (by omega), QB5.out⟩
    · refine rgn.stepE rfl rfl (fun K hK => ?_)
      go_simp
      refine hK _ _ (Same.alloc _ (by have := QB.out.size; have := HBB.out; omega)) ?_
      clear hK K
      try simp only [Act.put, List.setIfInBounds_toArray, List.set_cons_zero, List.set_cons_succ]
      have oA : Only [] wg5 (wg5.alloc (.cells #[] 5)) := (Only.refl [] _).alloc _
      have V25 : Hid (Own .u8 5 (wg5.alloc (.cells #[] 5)) (w.heap.size + 2) (.slice (some ⟨wg5.heap.size, 0, none⟩) 0 0) []) := hid (Own.lit .u8 5 _ (w.heap.size + 2) [] #[] 0 rfl rfl OP.out.lt (by simp) (by simp))
      obtain ⟨wb25, hwb25⟩ : ∃ X, X = (wg5.alloc (.cells #[] 5)) := ⟨_, rfl⟩
      obtain ⟨g25, hg25⟩ : ∃ X, X = wg5.heap.size := ⟨_, rfl⟩
      rw [← hwb25, ← hg25]
      rw [← hwb25, ← hg25] at V25
      rw [← hwb25] at oA
      have OR := hid (OR.out.only oA (by simp)); have OP := hid (OP.out.only oA (by simp)); have QB := hid (QB.out.trans oA); clear oA hwb25 hg25
      refine rgn.Walk.bs ?_ ?_
      · refine rgn.stepE rfl rfl (fun K hK => ?_)
        go_simp
        refine (callsOnly (ref.get41 _ (some ⟨b, off, none⟩) n c l (HL.out.only_nil QB.out) 12 (by omega) (by omega))).mono ?_
        rw [P12.out]
        rintro x1 wg22 ⟨rfl, og⟩
        refine hK _ _ (Same.only og (by have := QB.out.size; have := HBB.out; omega)) ?_
        clear hK K
        try simp only [Act.put, List.setIfInBounds_toArray, List.set_cons_zero, List.set_cons_succ]
        have OR := hid (OR.out.only og (by simp)); have OP := hid (OP.out.only og (by simp)); have QB := hid (QB.out.trans og); have V25 := hid (V25.out.only_nil og); clear og
        refine rgn.Walk.bs ?_ ?_
        · refine rgn.stepE rfl rfl (fun K hK => ?_)
          go_simp
          refine (callsOnly (ref.get41 _ (some ⟨b, off, none⟩) n c l (HL.out.only_nil QB.out) 16 (by omega) (by omega))).mono ?_
          rw [P16.out]
          rintro x1 wg24 ⟨rfl, og⟩
          refine hK _ _ (Same.only og (by have := QB.out.size; have := HBB.out; omega)) ?_
          clear hK K
          try simp only [Act.put, List.setIfInBounds_toArray, List.set_cons_zero, List.set_cons_succ]
          have OR := hid (OR.out.only og (by simp)); have OP := hid (OP.out.only og (by simp)); have QB := hid (QB.out.trans og); have V25 := hid (V25.out.only_nil og); clear og
          refine rgn.Walk.bs ?_ ?_
          · refine rgn.stepE rfl rfl (fun K hK => ?_)
            refine opApp rfl (.tmp 101) (.tmp 104) _ rfl hlp.elemB (w.heap.size + 2) _ [] rfl V25.out A3 (hh - 20) c3 ((l.take hh).drop 20) rfl (HR3.out.only_nil QB.out) HC3.out (by simp; omega) (by unfold maxLen; simp; omega) OP.out.lt ?_
            intro v1 wa29 hv hg hb
            refine hK _ _ (Same.grown hg (by have := QB.out.size; have := HBB.out; omega) (fun e => by have := (V25.out.lt _ e).1; have h9 := HBB.out; omega)) ?_
            clear hK K
            try simp only [Act.put, List.setIfInBounds_toArray, List.set_cons_zero, List.set_cons_succ]
            have OR := hid (OR.out.grown hg (fun e => by have := (V25.out.lt _ e).1; omega)); have OP := hid (OP.out.grown hg (fun e => by have := (V25.out.lt _ e).1; omega)); have QB := hid (QB.out.of_grown hg (fun k hk => .inr (by have := (V25.out.lt k hk).1; omega)))
            have V1 : Hid (Own .u8 5 wa29 (w.heap.size + 2) v1 ((l.take hh).drop 20)) := hid (by simpa using hv)
            obtain ⟨A5, c5, ev5, _, _, _, _⟩ := V1.out.slice
            rw [HOL2.out] at ev5
            subst ev5
            clear hv hg hb V25
            refine rgn.Walk.es ?_
            refine rgn.stepE rfl rfl (fun K hK => ?_)
            go_simp
            refine hK _ _ (Same.alloc _ (by have := QB.out.size; have := HBB.out; omega)) ?_
            clear hK K
            try simp only [Act.put, List.setIfInBounds_toArray, List.set_cons_zero, List.set_cons_succ]
            have oA : Only [] wa29 (wa29.alloc (.cells #[] 5)) := (Only.refl [] _).alloc _
            have V30 : Hid (Own .u8 5 (wa29.alloc (.cells #[] 5)) (w.heap.size + 2) (.slice (some ⟨wa29.heap.size, 0, none⟩) 0 0) []) := hid (Own.lit .u8 5 _ (w.heap.size + 2) [] #[] 0 rfl rfl OP.out.lt (by simp) (by simp))
            obtain ⟨wb30, hwb30⟩ : ∃ X, X = (wa29.alloc (.cells #[] 5)) := ⟨_, rfl⟩
            obtain ⟨g30, hg30⟩ : ∃ X, X = wa29.heap.size := ⟨_, rfl⟩
            rw [← hwb30, ← hg30]
            rw [← hwb30, ← hg30] at V30
            rw [← hwb30] at oA
            have NE1 : Hid ((Value.slice A5 (hh - 20) c5).ownBlock ≠ some g30) := hid (fun e => by have := (V1.out.lt _ e).2; omega)
            have OR := hid (OR.out.only oA (by simp)); have OP := hid (OP.out.only oA (by simp)); have QB := hid (QB.out.trans oA); have V1 := hid (V1.out.only_nil oA); clear oA hwb30 hg30
            refine rgn.Walk.es ?_
            refine rgn.stepE rfl rfl (fun K hK => ?_)
            refine opApp rfl (.tmp 106) (.tmp 110) _ rfl hlp.elemB (w.heap.size + 2) _ [] rfl V30.out A4 (tt - hh) c4 ((l.take tt).drop hh) rfl (HR4.out.only_nil QB.out) HC4.out (by simp; omega) (by unfold maxLen; simp; omega) OP.out.lt ?_
            intro v2 wa35 hv hg hb
            refine hK _ _ (Same.grown hg (by have := QB.out.size; have := HBB.out; omega) (fun e => by have := (V30.out.lt _ e).1; have h9 := HBB.out; omega)) ?_
            clear hK K
            try simp only [Act.put, List.setIfInBounds_toArray, List.set_cons_zero, List.set_cons_succ]
            have V1 := hid (V1.out.grown hg (Or.inr NE1.out))
            have OR := hid (OR.out.grown hg (fun e => by have := (V30.out.lt _ e).1; omega)); have OP := hid (OP.out.grown hg (fun e => by have := (V30.out.lt _ e).1; omega)); have QB := hid (QB.out.of_grown hg (fun k hk => .inr (by have := (V30.out.lt k hk).1; omega)))
            have V2 : Hid (Own .u8 5 wa35 (w.heap.size + 2) v2 ((l.take tt).drop hh)) := hid (by simpa using hv)
            obtain ⟨A6, c6, ev6, _, _, _, _⟩ := V2.out.slice
            rw [HDL2.out] at ev6
            subst ev6
            clear hv hg hb V30
            refine rgn.Walk.ys (v := ?_) rfl rfl rfl ?_ ?_
            rotate_left 1
            · intro W' hW'
              go_simp
              try with_reducible rfl
            try simp only [Act.put, List.setIfInBounds_toArray, List.set_cons_zero, List.set_cons_succ]
            refine rgn.Walk.es ?_
            refine rgn.stepE rfl rfl (fun K hK => ?_)
            refine opStoreOb rfl 26 _ _ rfl w.heap.size #[.int .i64 sv, .int .i64 v4, .bool wh, .bool mo, .int .i64 (b13 * 8), .int .i64 lf, .int .i64 pr, .int .u32 v12, .int .u32 v16, .slice A5 (hh - 20) c5, .slice A6 (tt - hh) c6] rfl rfl _ _ OR.out rfl (by kernel_rfl) (by simp [Value.oneCell']) (fun W9 hW9 => ?_)
            refine hK _ _ (((Only.refl [w.heap.size] _).eq_all hW9 (Or.inl (by simp))).block b (by have := QB.out.size; have := HBB.out; omega) (by simp; have := HBB.out; omega)) ?_
            clear hK K
            try simp only [Act.put, List.setIfInBounds_toArray, List.set_cons_zero, List.set_cons_succ]
            have OR5 := hid (OR.out.eq_all hW9 rfl); have QB5 := hid (QB.out.eq_all hW9 (Or.inr (by simp))); have QV5 : Hid (Only [w.heap.size] _ W9) := hid ((Only.refl _ _).eq_all hW9 (Or.inl (by simp))); clear hW9
            refine rgn.Walk.es ?_
            refine rgn.stepE rfl rfl (fun K hK => ?_)
            go_simp
            refine hK _ _ ((Same.refl b) _) ?_
            clear hK K
            try simp only [Act.put, List.setIfInBounds_toArray, List.set_cons_zero, List.set_cons_succ]
            refine rgn.Walk.zs (NoPanic.normal ?_)
            have HV5 := hid (V1.out.only QV5.out (fun i hi => by have h9 := (V1.out.lt i hi).1; simp; omega)); have HV6 := hid (V2.out.only QV5.out (fun i hi => by have h9 := (V2.out.lt i hi).1; simp; omega))
            have r0 := OR5.out.cell 0; have r1 := OR5.out.cell 1; have r2 := OR5.out.cell 2; have r3 := OR5.out.cell 3; have r4 := OR5.out.cell 4; have r5 := OR5.out.cell 5; have r6 := OR5.out.cell 6; have r7 := OR5.out.cell 7; have r8 := OR5.out.cell 8; have r9 := OR5.out.cell 9; have r10 := OR5.out.cell 10
            go_wp2
            exact bodyPost_ret (v := .tuple #[.agg #[.int .i64 sv, .int .i64 v4, .bool wh, .bool mo, .int .i64 (b13 * 8), .int .i64 lf, .int .i64 pr, .int .u32 v12, .int .u32 v16, .slice A5 (hh - 20) c5, .slice A6 (tt - hh) c6], .int .i64 0]) (by simp [results, Tryd.results19, go_sem, *]) rfl ⟨_, _, rfl, HV5.out.mono_base (by omega), HV6.out.mono_base (by omega), QB5.out⟩
          · refine rgn.stepE rfl rfl (fun K hK => ?_)
            go_simp
            refine hK _ _ (Same.alloc _ (by have := QB.out.size; have := HBB.out; omega)) ?_
            clear hK K
            try simp only [Act.put, List.setIfInBounds_toArray, List.set_cons_zero, List.set_cons_succ]
            have oA : Only [] wg24 (wg24.alloc (.cells #[] 5)) := (Only.refl [] _).alloc _
            have V30 : Hid (Own .u8 5 (wg24.alloc (.cells #[] 5)) (w.heap.size + 2) (.slice (some ⟨wg24.heap.size, 0, none⟩) 0 0) []) := hid (Own.lit .u8 5 _ (w.heap.size + 2) [] #[] 0 rfl rfl OP.out.lt (by simp) (by simp))
            obtain ⟨wb30, hwb30⟩ : ∃ X, X = (wg24.alloc (.cells #[] 5)) := ⟨_, rfl⟩
            obtain ⟨g30, hg30⟩ : ∃ X, X = wg24.heap.size := ⟨_, rfl⟩
            rw [← hwb30, ← hg30]
            rw [← hwb30, ← hg30] at V30
            rw [← hwb30] at oA
            have NE : Hid (g25 ≠ g30) := hid (by have := (V25.out.lt g25 rfl).2; omega)
            have OR := hid (OR.out.only oA (by simp)); have OP := hid (OP.out.only oA (by simp)); have QB := hid (QB.out.trans oA); have V25 := hid (V25.out.only_nil oA); clear oA hwb30 hg30
            refine rgn.Walk.es ?_
            refine rgn.stepE rfl rfl (fun K hK => ?_)
            refine opApp rfl (.tmp 101) (.tmp 104) _ rfl hlp.elemB (w.heap.size + 2) _ [] rfl V25.out A3 (hh - 20) c3 ((l.take hh).drop 20) rfl (HR3.out.only_nil QB.out) HC3.out (by simp; omega) (by unfold maxLen; simp; omega) OP.out.lt ?_
            intro v1 wa29 hv hg hb
            refine hK _ _ (Same.grown hg (by have := QB.out.size; have := HBB.out; omega) (fun e => by have := (V25.out.lt _ e).1; have h9 := HBB.out; omega)) ?_
            clear hK K
            try simp only [Act.put, List.setIfInBounds_toArray, List.set_cons_zero, List.set_cons_succ]
            have NE1 : Hid (v1.ownBlock ≠ some g30) := hid (ne_blk (g := g25) hb NE.out (V30.out.lt g30 rfl).2)
            have V30 := hid (V30.out.grown hg (Or.inr (fun e => NE.out (Option.some.inj (show some g30 = some g25 from e)).symm)))
            have OR := hid (OR.out.grown hg (fun e => by have := (V25.out.lt _ e).1; omega)); have OP := hid (OP.out.grown hg (fun e => by have := (V25.out.lt _ e).1; omega)); have QB := hid (QB.out.of_grown hg (fun k hk => .inr (by have := (V25.out.lt k hk).1; omega)))
            have V1 : Hid (Own .u8 5 wa29 (w.heap.size + 2) v1 ((l.take hh).drop 20)) := hid (by simpa using hv)
            obtain ⟨A5, c5, ev5, _, _, _, _⟩ := V1.out.slice
            rw [HOL2.out] at ev5
            subst ev5
            clear hv hg hb V25
            refine rgn.Walk.es ?_
            refine rgn.stepE rfl rfl (fun K hK => ?_)
            refine opApp rfl (.tmp 106) (.tmp 110) _ rfl hlp.elemB (w.heap.size + 2) _ [] rfl V30.out A4 (tt - hh) c4 ((l.take tt).drop hh) rfl (HR4.out.only_nil QB.out) HC4.out (by simp; omega) (by unfold maxLen; simp; omega) OP.out.lt ?_
            intro v2 wa35 hv hg hb
            refine hK _ _ (Same.grown hg (by have := QB.out.size; have := HBB.out; omega) (fun e => by have := (V30.out.lt _ e).1; have h9 := HBB.out; omega)) ?_
            clear hK K
            try simp only [Act.put, List.setIfInBounds_toArray, List.set_cons_zero, List.set_cons_succ]
            have V1 := hid (V1.out.grown hg (Or.inr NE1.out))
            have OR := hid (OR.out.grown hg (fun e => by have := (V30.out.lt _ e).1; omega)); have OP := hid (OP.out.grown hg (fun e => by have := (V30.out.lt _ e).1; omega)); have QB := hid (QB.out.of_grown hg (fun k hk => .inr (by have := (V30.out.lt k hk).1; omega)))
            have V2 : Hid (Own .u8 5 wa35 (w.heap.size + 2) v2 ((l.take tt).drop hh)) := hid (by simpa using hv)
            obtain ⟨A6, c6, ev6, _, _, _, _⟩ := V2.out.slice
            rw [HDL2.out] at ev6
            subst ev6
            clear hv hg hb V30
            refine rgn.Walk.ys (v := ?_) rfl rfl rfl ?_ ?_
            rotate_left 1
            · intro W' hW'
              go_simp
              try with_reducible rfl
            try simp only [Act.put, List.setIfInBounds_toArray, List.set_cons_zero, List.set_cons_succ]
            refine rgn.Walk.es ?_
            refine rgn.stepE rfl rfl (fun K hK => ?_)
            refine opStoreOb rfl 26 _ _ rfl w.heap.size #[.int .i64 sv, .int .i64 v4, .bool wh, .bool mo, .int .i64 (b13 * 8), .int .i64 lf, .int .i64 pr, .int .u32 v12, .int .u32 v16, .slice A5 (hh - 20) c5, .slice A6 (tt - hh) c6] rfl rfl _ _ OR.out rfl (by kernel_rfl) (by simp [Value.oneCell']) (fun W9 hW9 => ?_)
            refine hK _ _ (((Only.refl [w.heap.size] _).eq_all hW9 (Or.inl (by simp))).block b (by have := QB.out.size; have := HBB.out; omega) (by simp; have := HBB.out; omega)) ?_
            clear hK K
            try simp only [Act.put, List.setIfInBounds_toArray, List.set_cons_zero, List.set_cons_succ]
            have OR5 := hid (OR.out.eq_all hW9 rfl); have QB5 := hid (QB.out.eq_all hW9 (Or.inr (by simp))); have QV5 : Hid (Only [w.heap.size] _ W9) := hid ((Only.refl _ _).eq_all hW9 (Or.inl (by simp))); clear hW9
            refine rgn.Walk.es ?_
            refine rgn.stepE rfl rfl (fun K hK => ?_)
            go_simp
            refine hK _ _ ((Same.refl b) _) ?_
            clear hK K
            try simp only [Act.put, List.setIfInBounds_toArray, List.set_cons_zero, List.set_cons_succ]
            refine rgn.Walk.zs (NoPanic.normal ?_)
            have HV5 := hid (V1.out.only QV5.out (fun i hi => by have h9 := (V1.out.lt i hi).1; simp; omega)); have HV6 := hid (V2.out.only QV5.out (fun i hi => by have h9 := (V2.out.lt i hi).1; simp; omega))
            have r0 := OR5.out.cell 0; have r1 := OR5.out.cell 1; have r2 := OR5.out.cell 2; have r3 := OR5.out.cell 3; have r4 := OR5.out.cell 4; have r5 := OR5.out.cell 5; have r6 := OR5.out.cell 6; have r7 := OR5.out.cell 7; have r8 := OR5.out.cell 8; have r9 := OR5.out.cell 9; have r10 := OR5.out.cell 10
            go_wp2
            exact bodyPost_ret (v := .tuple #[.agg #[.int .i64 sv, .int .i64 v4, .bool wh, .bool mo, .int .i64 (b13 * 8), .int .i64 lf, .int .i64 pr, .int .u32 v12, .int .u32 v16, .slice A5 (hh - 20) c5, .slice A6 (tt - hh) c6], .int .i64 0]) (by simp [results, Tryd.results19, go_sem, *]) rfl ⟨_, _, rfl, HV5.out.mono_base (by omega), HV6.out.mono_base (by omega), QB5.out⟩
        · refine rgn.stepE rfl rfl (fun K hK => ?_)
          go_simp
          refine hK _ _ (Same.alloc _ (by have := QB.out.size; have := HBB.out; omega)) ?_
          clear hK K
          try simp only [Act.put, List.setIfInBounds_toArray, List.set_cons_zero, List.set_cons_succ]
          have oA : Only [] wg22 (wg22.alloc (.cells #[] 5)) := (Only.refl [] _).alloc _
          have V30 : Hid (Own .u8 5 (wg22.alloc (.cells #[] 5)) (w.heap.size + 2) (.slice (some ⟨wg22.heap.size, 0, none⟩) 0 0) []) := hid (Own.lit .u8 5 _ (w.heap.size + 2) [] #[] 0 rfl rfl OP.out.lt (by simp) (by simp))
          obtain ⟨wb30, hwb30⟩ : ∃ X, X = (wg22.alloc (.cells #[] 5)) := ⟨_, rfl⟩
          obtain ⟨g30, hg30⟩ : ∃ X, X = wg22.heap.size := ⟨_, rfl⟩
          rw [← hwb30, ← hg30]
          rw [← hwb30, ← hg30] at V30
          rw [← hwb30] at oA
          have NE : Hid (g25 ≠ g30) := hid (by have := (V25.out.lt g25 rfl).2; omega)
          have OR := hid (OR.out.only oA (by simp)); have OP := hid (OP.out.only oA (by simp)); have QB := hid (QB.out.trans oA); have V25 := hid (V25.out.only_nil oA); clear oA hwb30 hg30
          refine rgn.Walk.es ?_
          refine rgn.stepE rfl rfl (fun K hK => ?_)
          go_simp
          refine (callsOnly (ref.get41 _ (some ⟨b, off, none⟩) n c l (HL.out.only_nil QB.out) 16 (by omega) (by omega))).mono ?_
          rw [P16.out]
          rintro x1 wg24 ⟨rfl, og⟩
          refine hK _ _ (Same.only og (by have := QB.out.size; have := HBB.out; omega)) ?_
          clear hK K
          try simp only [Act.put, List.setIfInBounds_toArray, List.set_cons_zero, List.set_cons_succ]
          have OR := hid (OR.out.only og (by simp)); have OP := hid (OP.out.only og (by simp)); have QB := hid (QB.out.trans og); have V25 := hid (V25.out.only_nil og); have V30 := hid (V30.out.only_nil og); clear og
          refine rgn.Walk.es ?_
          refine rgn.stepE rfl rfl (fun K hK => ?_)
          refine opApp rfl (.tmp 101) (.tmp 104) _ rfl hlp.elemB (w.heap.size + 2) _ [] rfl V25.out A3 (hh - 20) c3 ((l.take hh).drop 20) rfl (HR3.out.only_nil QB.out) HC3.out (by simp; omega) (by unfold maxLen; simp; omega) OP.out.lt ?_
          intro v1 wa29 hv hg hb
          refine hK _ _ (Same.grown hg (by have := QB.out.size; have := HBB.out; omega) (fun e => by have := (V25.out.lt _ e).1; have h9 := HBB.out; omega)) ?_
          clear hK K
          try simp only [Act.put, List.setIfInBounds_toArray, List.set_cons_zero, List.set_cons_succ]
          have NE1 : Hid (v1.ownBlock ≠ some g30) := hid (ne_blk (g := g25) hb NE.out (V30.out.lt g30 rfl).2)
          have V30 := hid (V30.out.grown hg (Or.inr (fun e => NE.out (Option.some.inj (show some g30 = some g25 from e)).symm)))
          have OR := hid (OR.out.grown hg (fun e => by have := (V25.out.lt _ e).1; omega)); have OP := hid (OP.out.grown hg (fun e => by have := (V25.out.lt _ e).1; omega)); have QB := hid (QB.out.of_grown hg (fun k hk => .inr (by have := (V25.out.lt k hk).1; omega)))
          have V1 : Hid (Own .u8 5 wa29 (w.heap.size + 2) v1 ((l.take hh).drop 20)) := hid (by simpa using hv)
          obtain ⟨A5, c5, ev5, _, _, _, _⟩ := V1.out.slice
          rw [HOL2.out] at ev5
          subst ev5
          clear hv hg hb V25
          refine rgn.Walk.es ?_
          refine rgn.stepE rfl rfl (fun K hK => ?_)
          refine opApp rfl (.tmp 106) (.tmp 110) _ rfl hlp.elemB (w.heap.size + 2) _ [] rfl V30.out A4 (tt - hh) c4 ((l.take tt).drop hh) rfl (HR4.out.only_nil QB.out) HC4.out (by simp; omega) (by unfold maxLen; simp; omega) OP.out.lt ?_
          intro v2 wa35 hv hg hb
          refine hK _ _ (Same.grown hg (by have := QB.out.size; have := HBB.out; omega) (fun e => by have := (V30.out.lt _ e).1; have h9 := HBB.out; omega)) ?_
          clear hK K
          try simp only [Act.put, List.setIfInBounds_toArray, List.set_cons_zero, List.set_cons_succ]
          have V1 := hid (V1.out.grown hg (Or.inr NE1.out))
          have OR := hid (OR.out.grown hg (fun e => by have := (V30.out.lt _ e).1; omega)); have OP := hid (OP.out.grown hg (fun e => by have := (V30.out.lt _ e).1; omega)); have QB := hid (QB.out.of_grown hg (fun k hk => .inr (by have := (V30.out.lt k hk).1; omega)))
          have V2 : Hid (Own .u8 5 wa35 (w.heap.size + 2) v2 ((l.take tt).drop hh)) := hid (by simpa using hv)
          obtain ⟨A6, c6, ev6, _, _, _, _⟩ := V2.out.slice
          rw [HDL2.out] at ev6
          subst ev6
          clear hv hg hb V30
          refine rgn.Walk.ys (v := ?_) rfl rfl rfl ?_ ?_
          rotate_left 1
          · intro W' hW'
            go_simp
            try with_reducible rfl
          try simp only [Act.put, List.setIfInBounds_toArray, List.set_cons_zero, List.set_cons_succ]
          refine rgn.Walk.es ?_
          refine rgn.stepE rfl rfl (fun K hK => ?_)
          refine opStoreOb rfl 26 _ _ rfl w.heap.size #[.int .i64 sv, .int .i64 v4, .bool wh, .bool mo, .int .i64 (b13 * 8), .int .i64 lf, .int .i64 pr, .int .u32 v12, .int .u32 v16, .slice A5 (hh - 20) c5, .slice A6 (tt - hh) c6] rfl rfl _ _ OR.out rfl (by kernel_rfl) (by simp [Value.oneCell']) (fun W9 hW9 => ?_)
          refine hK _ _ (((Only.refl [w.heap.size] _).eq_all hW9 (Or.inl (by simp))).block b (by have := QB.out.size; have := HBB.out; omega) (by simp; have := HBB.out; omega)) ?_
          clear hK K
          try simp only [Act.put, List.setIfInBounds_toArray, List.set_cons_zero, List.set_cons_succ]
          have OR5 := hid (OR.out.eq_all hW9 rfl); have QB5 := hid (QB.out.eq_all hW9 (Or.inr (by simp))); have QV5 : Hid (Only [w.heap.size] _ W9) := hid ((Only.refl _ _).eq_all hW9 (Or.inl (by simp))); clear hW9
          refine rgn.Walk.es ?_
          refine rgn.stepE rfl rfl (fun K hK => ?_)
          go_simp
          refine hK _ _ ((Same.refl b) _) ?_
          clear hK K
          try simp only [Act.put, List.setIfInBounds_toArray, List.set_cons_zero, List.set_cons_succ]
          refine rgn.Walk.zs (NoPanic.normal ?_)
          have HV5 := hid (V1.out.only QV5.out (fun i hi => by have h9 := (V1.out.lt i hi).1; simp; omega)); have HV6 := hid (V2.out.only QV5.out (fun i hi => by have h9 := (V2.out.lt i hi).1; simp; omega))
          have r0 := OR5.out.cell 0; have r1 := OR5.out.cell 1; have r2 := OR5.out.cell 2; have r3 := OR5.out.cell 3; have r4 := OR5.out.cell 4; have r5 := OR5.out.cell 5; have r6 := OR5.out.cell 6; have r7 := OR5.out.cell 7; have r8 := OR5.out.cell 8; have r9 := OR5.out.cell 9; have r10 := OR5.out.cell 10
          go_wp2
          exact bodyPost_ret (v := .tuple #[.agg #[.int .i64 sv, .int .i64 v4, .bool wh, .bool mo, .int .i64 (b13 * 8), .int .i64 lf, .int .i64 pr, .int .u32 v12, .int .u32 v16, .slice A5 (hh - 20) c5, .slice A6 (tt - hh) c6], .int .i64 0]) (by simp [results, Tryd.results19, go_sem, *]) rfl ⟨_, _, rfl, HV5.out.mono_base (by omega), HV6.out.mono_base (by omega), QB5.out⟩
      · refine rgn.stepE rfl rfl (fun K hK => ?_)
        go_simp
        refine hK _ _ (Same.alloc _ (by have := QB.out.size; have := HBB.out; omega)) ?_
        clear hK K
        try simp only [Act.put, List.setIfInBounds_toArray, List.set_cons_zero, List.set_cons_succ]
        have oA : Only [] wb25 (wb25.alloc (.cells #[] 5)) := (Only.refl [] _).alloc _
        have V30 : Hid (Own .u8 5 (wb25.alloc (.cells #[] 5)) (w.heap.size + 2) (.slice (some ⟨wb25.heap.size, 0, none⟩) 0 0) []) := hid (Own.lit .u8 5 _ (w.heap.size + 2) [] #[] 0 rfl rfl OP.out.lt (by simp) (by simp))
        obtain ⟨wb30, hwb30⟩ : ∃ X, X = (wb25.alloc (.cells #[] 5)) := ⟨_, rfl⟩
        obtain ⟨g30, hg30⟩ : ∃ X, X = wb25.heap.size := ⟨_, rfl⟩
        rw [← hwb30, ← hg30]
        rw [← hwb30, ← hg30] at V30
        rw [← hwb30] at oA
        have NE : Hid (g25 ≠ g30) := hid (by have := (V25.out.lt g25 rfl).2; omega)
        have OR := hid (OR.out.only oA (by simp)); have OP := hid (OP.out.only oA (by simp)); have QB := hid (QB.out.trans oA); have V25 := hid (V25.out.only_nil oA); clear oA hwb30 hg30
        refine rgn.Walk.es ?_
        refine rgn.stepE rfl rfl (fun K hK => ?_)
        go_simp
        refine (callsOnly (ref.get41 _ (some ⟨b, off, none⟩) n c l (HL.out.only_nil QB.out) 12 (by omega) (by omega))).mono ?_
        rw [P12.out]
        rintro x1 wg22 ⟨rfl, og⟩
        refine hK _ _ (Same.only og (by have := QB.out.size; have := HBB.out; omega)) ?_
        clear hK K
        try simp only [Act.put, List.setIfInBounds_toArray, List.set_cons_zero, List.set_cons_succ]
        have OR := hid (OR.out.only og (by simp)); have OP := hid (OP.out.only og (by simp)); have QB := hid (QB.out.trans og); have V25 := hid (V25.out.only_nil og); have V30 := hid (V30.out.only_nil og); clear og
        refine rgn.Walk.es ?_
        refine rgn.stepE rfl rfl (fun K hK => ?_)
        go_simp
        refine (callsOnly (ref.get41 _ (some ⟨b, off, none⟩) n c l (HL.out.only_nil QB.out) 16 (by omega) (by omega))).mono ?_
        rw [P16.out]
        rintro x1 wg24 ⟨rfl, og⟩
        refine hK _ _ (Same.only og (by have := QB.out.size; have := HBB.out; omega)) ?_
        clear hK K
        try simp only [Act.put, List.setIfInBounds_toArray, List.set_cons_zero, List.set_cons_succ]
        have OR := hid (OR.out.only og (by simp)); have OP := hid (OP.out.only og (by simp)); have QB := hid (QB.out.trans og); have V25 := hid (V25.out.only_nil og); have V30 := hid (V30.out.only_nil og); clear og
        refine rgn.Walk.es ?_
        refine rgn.stepE rfl rfl (fun K hK => ?_)
        refine opApp rfl (.tmp 101) (.tmp 104) _ rfl hlp.elemB (w.heap.size + 2) _ [] rfl V25.out A3 (hh - 20) c3 ((l.take hh).drop 20) rfl (HR3.out.only_nil QB.out) HC3.out (by simp; omega) (by unfold maxLen; simp; omega) OP.out.lt ?_
        intro v1 wa29 hv hg hb
        refine hK _ _ (Same.grown hg (by have := QB.out.size; have := HBB.out; omega) (fun e => by have := (V25.out.lt _ e).1; have h9 := HBB.out; omega)) ?_
        clear hK K
        try simp only [Act.put, List.setIfInBounds_toArray, List.set_cons_zero, List.set_cons_succ]
        have NE1 : Hid (v1.ownBlock ≠ some g30) := hid (ne_blk (g := g25) hb NE.out (V30.out.lt g30 rfl).2)
        have V30 := hid (V30.out.grown hg (Or.inr (fun e => NE.out (Option.some.inj (show some g30 = some g25 from e)).symm)))
        have OR := hid (OR.out.grown hg (fun e => by have := (V25.out.lt _ e).1; omega)); have OP := hid (OP.out.grown hg (fun e => by have := (V25.out.lt _ e).1; omega)); have QB := hid (QB.out.of_grown hg (fun k hk => .inr (by have := (V25.out.lt k hk).1; omega)))
        have V1 : Hid (Own .u8 5 wa29 (w.heap.size + 2) v1 ((l.take hh).drop 20)) := hid (by simpa using hv)
        obtain ⟨A5, c5, ev5, _, _, _, _⟩ := V1.out.slice
        rw [HOL2.out] at ev5
        subst ev5
        clear hv hg hb V25
        refine rgn.Walk.es ?_
        refine rgn.stepE rfl rfl (fun K hK => ?_)
        refine opApp rfl (.tmp 106) (.tmp 110) _ rfl hlp.elemB (w.heap.size + 2) _ [] rfl V30.out A4 (tt - hh) c4 ((l.take tt).drop hh) rfl (HR4.out.only_nil QB.out) HC4.out (by simp; omega) (by unfold maxLen; simp; omega) OP.out.lt ?_
        intro v2 wa35 hv hg hb
        refine hK _ _ (Same.grown hg (by have := QB.out.size; have := HBB.out; omega) (fun e => by have := (V30.out.lt _ e).1; have h9 := HBB.out; omega)) ?_
        clear hK K
        try simp only [Act.put, List.setIfInBounds_toArray, List.set_cons_zero, List.set_cons_succ]
        have V1 := hid (V1.out.grown hg (Or.inr NE1.out))
        have OR := hid (OR.out.grown hg (fun e => by have := (V30.out.lt _ e).1; omega)); have OP := hid (OP.out.grown hg (fun e => by have := (V30.out.lt _ e).1; omega)); have QB := hid (QB.out.of_grown hg (fun k hk => .inr (by have := (V30.out.lt k hk).1; omega)))
        have V2 : Hid (Own .u8 5 wa35 (w.heap.size + 2) v2 ((l.take tt).drop hh)) := hid (by simpa using hv)
        obtain ⟨A6, c6, ev6, _, _, _, _⟩ := V2.out.slice
        rw [HDL2.out] at ev6
        subst ev6
        clear hv hg hb V30
        refine rgn.Walk.ys (v := ?_) rfl rfl rfl ?_ ?_
        rotate_left 1
        · intro W' hW'
          go_simp
          try with_reducible rfl
        try simp only [Act.put, List.setIfInBounds_toArray, List.set_cons_zero, List.set_cons_succ]
        refine rgn.Walk.es ?_
        refine rgn.stepE rfl rfl (fun K hK => ?_)
        refine opStoreOb rfl 26 _ _ rfl w.heap.size #[.int .i64 sv, .int .i64 v4, .bool wh, .bool mo, .int .i64 (b13 * 8), .int .i64 lf, .int .i64 pr, .int .u32 v12, .int .u32 v16, .slice A5 (hh - 20) c5, .slice A6 (tt - hh) c6] rfl rfl _ _ OR.out rfl (by kernel_rfl) (by simp [Value.oneCell']) (fun W9 hW9 => ?_)
        refine hK _ _ (((Only.refl [w.heap.size] _).eq_all hW9 (Or.inl (by simp))).block b (by have := QB.out.size; have := HBB.out; omega) (by simp; have := HBB.out; omega)) ?_
        clear hK K
        try simp only [Act.put, List.setIfInBounds_toArray, List.set_cons_zero, List.set_cons_succ]
        have OR5 := hid (OR.out.eq_all hW9 rfl); have QB5 := hid (QB.out.eq_all hW9 (Or.inr (by simp))); have QV5 : Hid (Only [w.heap.size] _ W9) := hid ((Only.refl _ _).eq_all hW9 (Or.inl (by simp))); clear hW9
        refine rgn.Walk.es ?_
        refine rgn.stepE rfl rfl (fun K hK => ?_)
        go_simp
        refine hK _ _ ((Same.refl b) _) ?_
        clear hK K
        try simp only [Act.put, List.setIfInBounds_toArray, List.set_cons_zero, List.set_cons_succ]
        refine rgn.Walk.zs (NoPanic.normal ?_)
        have HV5 := hid (V1.out.only QV5.out (fun i hi => by have h9 := (V1.out.lt i hi).1; simp; omega)); have HV6 := hid (V2.out.only QV5.out (fun i hi => by have h9 := (V2.out.lt i hi).1; simp; omega))
        have r0 := OR5.out.cell 0; have r1 := OR5.out.cell 1; have r2 := OR5.out.cell 2; have r3 := OR5.out.cell 3; have r4 := OR5.out.cell 4; have r5 := OR5.out.cell 5; have r6 := OR5.out.cell 6; have r7 := OR5.out.cell 7; have r8 := OR5.out.cell 8; have r9 := OR5.out.cell 9; have r10 := OR5.out.cell 10
        go_wp2
        exact bodyPost_ret (v := .tuple #[.agg #[.int .i64 sv, .int .i64 v4, .bool wh, .bool mo, .int .i64 (b13 * 8), .int .i64 lf, .int .i64 pr, .int .u32 v12, .int .u32 v16, .slice A5 (hh - 20) c5, .slice A6 (tt - hh) c6], .int .i64 0]) (by simp [results, Tryd.results19, go_sem, *]) rfl ⟨_, _, rfl, HV5.out.mono_base (by omega), HV6.out.mono_base (by omega), QB5.out⟩
    · refine rgn.stepE rfl rfl (fun K hK => ?_)
      go_simp
      refine hK _ _ (Same.alloc _ (by have := QB.out.size; have := HBB.out; omega)) ?_
      clear hK K
      try simp only [Act.put, List.setIfInBounds_toArray, List.set_cons_zero, List.set_cons_succ]
      have oA : Only [] wg5 (wg5.alloc (.cells #[] 5)) := (Only.refl [] _).alloc _
      have V30 : Hid (Own .u8 5 (wg5.alloc (.cells #[] 5)) (w.heap.size + 2) (.slice (some ⟨wg5.heap.size, 0, none⟩) 0 0) []) := hid (Own.lit .u8 5 _ (w.heap.size + 2) [] #[] 0 rfl rfl OP.out.lt (by simp) (by simp))
      obtain ⟨wb30, hwb30⟩ : ∃ X, X = (wg5.alloc (.cells #[] 5)) := ⟨_, rfl⟩
      obtain ⟨g30, hg30⟩ : ∃ X, X = wg5.heap.size := ⟨_, rfl⟩
      rw [← hwb30, ← hg30]
      rw [← hwb30, ← hg30] at V30
      rw [← hwb30] at oA
      have OR := hid (OR.out.only oA (by simp)); have OP := hid (OP.out.only oA (by simp)); have QB := hid (QB.out.trans oA); clear oA hwb30 hg30
      refine rgn.Walk.bs ?_ ?_
      · refine rgn.stepE rfl rfl (fun K hK => ?_)
        go_simp
        refine (callsOnly (ref.get41 _ (some ⟨b, off, none⟩) n c l (HL.out.only_nil QB.out) 12 (by omega) (by omega))).mono ?_
        rw [P12.out]
        rintro x1 wg22 ⟨rfl, og⟩
        refine hK _ _ (Same.only og (by have := QB.out.size; have := HBB.out; omega)) ?_
        clear hK K
        try simp only [Act.put, List.setIfInBounds_toArray, List.set_cons_zero, List.set_cons_succ]
        have OR := hid (OR.out.only og (by simp)); have OP := hid (OP.out.only og (by simp)); have QB := hid (QB.out.trans og); have V30 := hid (V30.out.only_nil og); clear og
        refine rgn.Walk.bs ?_ ?_
        · refine rgn.stepE rfl rfl (fun K hK => ?_)
          go_simp
          refine (callsOnly (ref.get41 _ (some ⟨b, off, none⟩) n c l (HL.out.only_nil QB.out) 16 (by omega) (by omega))).mono ?_
          rw [P16.out]
          rintro x1 wg24 ⟨rfl, og⟩
          refine hK _ _ (Same.only og (by have := QB.out.size; have := HBB.out; omega)) ?_
          clear hK K
          try simp only [Act.put, List.setIfInBounds_toArray, List.set_cons_zero, List.set_cons_succ]
          have OR := hid (OR.out.only og (by simp)); have OP := hid (OP.out.only og (by simp)); have QB := hid (QB.out.trans og); have V30 := hid (V30.out.only_nil og); clear og
          refine rgn.Walk.es ?_
          refine rgn.stepE rfl rfl (fun K hK => ?_)
          go_simp
          refine hK _ _ (Same.alloc _ (by have := QB.out.size; have := HBB.out; omega)) ?_
          clear hK K
          try simp only [Act.put, List.setIfInBounds_toArray, List.set_cons_zero, List.set_cons_succ]
          have oA : Only [] wg24 (wg24.alloc (.cells #[] 5)) := (Only.refl [] _).alloc _
          have V25 : Hid (Own .u8 5 (wg24.alloc (.cells #[] 5)) (w.heap.size + 2) (.slice (some ⟨wg24.heap.size, 0, none⟩) 0 0) []) := hid (Own.lit .u8 5 _ (w.heap.size + 2) [] #[] 0 rfl rfl OP.out.lt (by simp) (by simp))
          obtain ⟨wb25, hwb25⟩ : ∃ X, X = (wg24.alloc (.cells #[] 5)) := ⟨_, rfl⟩
          obtain ⟨g25, hg25⟩ : ∃ X, X = wg24.heap.size := ⟨_, rfl⟩
          rw [← hwb25, ← hg25]
          rw [← hwb25, ← hg25] at V25
          rw [← hwb25] at oA
          have NE : Hid (g25 ≠ g30) := hid (by have := (V30.out.lt g30 rfl).2; omega)
          have OR := hid (OR.out.only oA (by simp)); have OP := hid (OP.out.only oA (by simp)); have QB := hid (QB.out.trans oA); have V30 := hid (V30.out.only_nil oA); clear oA hwb25 hg25
          refine rgn.Walk.es ?_
          refine rgn.stepE rfl rfl (fun K hK => ?_)
          refine opApp rfl (.tmp 101) (.tmp 104) _ rfl hlp.elemB (w.heap.size + 2) _ [] rfl V25.out A3 (hh - 20) c3 ((l.take hh).drop 20) rfl (HR3.out.only_nil QB.out) HC3.out (by simp; omega) (by unfold maxLen; simp; omega) OP.out.lt ?_
          intro v1 wa29 hv hg hb
          refine hK _ _ (Same.grown hg (by have := QB.out.size; have := HBB.out; omega) (fun e => by have := (V25.out.lt _ e).1; have h9 := HBB.out; omega)) ?_
          clear hK K
          try simp only [Act.put, List.setIfInBounds_toArray, List.set_cons_zero, List.set_cons_succ]
          have NE1 : Hid (v1.ownBlock ≠ some g30) := hid (ne_blk (g := g25) hb NE.out (V30.out.lt g30 rfl).2)
          have V30 := hid (V30.out.grown hg (Or.inr (fun e => NE.out (Option.some.inj (show some g30 = some g25 from e)).symm)))
          have OR := hid (OR.out.grown hg (fun e => by have := (V25.out.lt _ e).1; omega)); have OP := hid (OP.out.grown hg (fun e => by have := (V25.out.lt _ e).1; omega)); have QB := hid (QB.out.of_grown hg (fun k hk => .inr (by have := (V25.out.lt k hk).1; omega)))
          have V1 : Hid (Own .u8 5 wa29 (w.heap.size + 2) v1 ((l.take hh).drop 20)) := hid (by simpa using hv)
          obtain ⟨A5, c5, ev5, _, _, _, _⟩ := V1.out.slice
          rw [HOL2.out] at ev5
          subst ev5
          clear hv hg hb V25
          refine rgn.Walk.es ?_
          refine rgn.stepE rfl rfl (fun K hK => ?_)
          refine opApp rfl (.tmp 106) (.tmp 110) _ rfl hlp.elemB (w.heap.size + 2) _ [] rfl V30.out A4 (tt - hh) c4 ((l.take tt).drop hh) rfl (HR4.out.only_nil QB.out) HC4.out (by simp; omega) (by unfold maxLen; simp; omega) OP.out.lt ?_
          intro v2 wa35 hv hg hb
          refine hK _ _ (Same.grown hg (by have := QB.out.size; have := HBB.out; omega) (fun e => by have := (V30.out.lt _ e).1; have h9 := HBB.out; omega)) ?_
          clear hK K
          try simp only [Act.put, List.setIfInBounds_toArray, List.set_cons_zero, List.set_cons_succ]
          have V1 := hid (V1.out.grown hg (Or.inr NE1.out))
          have OR := hid (OR.out.grown hg (fun e => by have := (V30.out.lt _ e).1; omega)); have OP := hid (OP.out.grown hg (fun e => by have := (V30.out.lt _ e).1; omega)); have QB := hid (QB.out.of_grown hg (fun k hk => .inr (by have := (V30.out.lt k hk).1; omega)))
          have V2 : Hid (Own .u8 5 wa35 (w.heap.size + 2) v2 ((l.take tt).drop hh)) := hid (by simpa using hv)
          obtain ⟨A6, c6, ev6, _, _, _, _⟩ := V2.out.slice
          rw [HDL2.out] at ev6
          subst ev6
          clear hv hg hb V30
          refine rgn.Walk.ys (v := ?_) rfl rfl rfl ?_ ?_
          rotate_left 1
          · intro W' hW'
            go_simp
            try with_reducible rfl
          try simp only [Act.put, List.setIfInBounds_toArray, List.set_cons_zero, List.set_cons_succ]
          refine rgn.Walk.es ?_
          refine rgn.stepE rfl rfl (fun K hK => ?_)
          refine opStoreOb rfl 26 _ _ rfl w.heap.size #[.int .i64 sv, .int .i64 v4, .bool wh, .bool mo, .int .i64 (b13 * 8), .int .i64 lf, .int .i64 pr, .int .u32 v12, .int .u32 v16, .slice A5 (hh - 20) c5, .slice A6 (tt - hh) c6] rfl rfl _ _ OR.out rfl (by kernel_rfl) (by simp [Value.oneCell']) (fun W9 hW9 => ?_)
          refine hK _ _ (((Only.refl [w.heap.size] _).eq_all hW9 (Or.inl (by simp))).block b (by have := QB.out.size; have := HBB.out; omega) (by simp; have := HBB.out; omega)) ?_
          clear hK K
          try simp only [Act.put, List.setIfInBounds_toArray, List.set_cons_zero, List.set_cons_succ]
          have OR5 := hid (OR.out.eq_all hW9 rfl); have QB5 := hid (QB.out.eq_all hW9 (Or.inr (by simp))); have QV5 : Hid (Only [w.heap.size] _ W9) := hid ((Only.refl _ _).eq_all hW9 (Or.inl (by simp))); clear hW9
          refine rgn.Walk.es ?_
          refine rgn.stepE rfl rfl (fun K hK => ?_)
          go_simp
          refine hK _ _ ((Same.refl b) _) ?_
          clear hK K
          try simp only [Act.put, List.setIfInBounds_toArray, List.set_cons_zero, List.set_cons_succ]
          refine rgn.Walk.zs (NoPanic.normal ?_)
          have HV5 := hid (V1.out.only QV5.out (fun i hi => by have h9 := (V1.out.lt i hi).1; simp; omega)); have HV6 := hid (V2.out.only QV5.out (fun i hi => by have h9 := (V2.out.lt i hi).1; simp; omega))
          have r0 := OR5.out.cell 0; have r1 := OR5.out.cell 1; have r2 := OR5.out.cell 2; have r3 := OR5.out.cell 3; have r4 := OR5.out.cell 4; have r5 := OR5.out.cell 5; have r6 := OR5.out.cell 6; have r7 := OR5.out.cell 7; have r8 := OR5.out.cell 8; have r9 := OR5.out.cell 9; have r10 := OR5.out.cell 10
          go_wp2
          exact bodyPost_ret (v := .tuple #[.agg #[.int .i64 sv, .int .i64 v4, .bool wh, .bool mo, .int .i64 (b13 * 8), .int .i64 lf, .int .i64 pr, .int .u32 v12, .int .u32 v16, .slice A5 (hh - 20) c5, .slice A6 (tt - hh) c6], .int .i64 0]) (by simp [results, Tryd.results19, go_sem, *]) rfl ⟨_, _, rfl, HV5.out.mono_base (by omega), HV6.out.mono_base (by omega), QB5.out⟩
        · refine rgn.stepE rfl rfl (fun K hK => ?_)
          go_simp
          refine hK _ _ (Same.alloc _ (by have := QB.out.size; have := HBB.out; omega)) ?_
          clear hK K
          try simp only [Act.put, List.setIfInBounds_toArray, List.set_cons_zero, List.set_cons_succ]
          have oA : Only [] wg22 (wg22.alloc (.cells #[] 5)) := (Only.refl [] _).alloc _
          have V25 : Hid (Own .u8 5 (wg22.alloc (.cells #[] 5)) (w.heap.size + 2) (.slice (some ⟨wg22.heap.size, 0, none⟩) 0 0) []) := hid (Own.lit .u8 5 _ (w.heap.size + 2) [] #[] 0 rfl rfl OP.out.lt (by simp) (by simp))
          obtain ⟨wb25, hwb25⟩ : ∃ X, X = (wg22.alloc (.cells #[] 5)) := ⟨_, rfl⟩
          obtain ⟨g25, hg25⟩ : ∃ X, X = wg22.heap.size := ⟨_, rfl⟩
          rw [← hwb25, ← hg25]
          rw [← hwb25, ← hg25] at V25
          rw [← hwb25] at oA
          have NE : Hid (g25 ≠ g30) := hid (by have := (V30.out.lt g30 rfl).2; omega)
          have OR := hid (OR.out.only oA (by simp)); have OP := hid (OP.out.only oA (by simp)); have QB := hid (QB.out.trans oA); have V30 := hid (V30.out.only_nil oA); clear oA hwb25 hg25
          refine rgn.Walk.es ?_
          refine rgn.stepE rfl rfl (fun K hK => ?_)
          go_simp
          refine (callsOnly (ref.get41 _ (some ⟨b, off, none⟩) n c l (HL.out.only_nil QB.out) 16 (by omega) (by omega))).mono ?_
          rw [P16.out]
          rintro x1 wg24 ⟨rfl, og⟩
          refine hK _ _ (Same.only og (by have := QB.out.size; have := HBB.out; omega)) ?_
          clear hK K
          try simp only [Act.put, List.setIfInBounds_toArray, List.set_cons_zero, List.set_cons_succ]
          have OR := hid (OR.out.only og (by simp)); have OP := hid (OP.out.only og (by simp)); have QB := hid (QB.out.trans og); have V25 := hid (V25.out.only_nil og); have V30 := hid (V30.out.only_nil og); clear og
          refine rgn.Walk.es ?_
          refine rgn.stepE rfl rfl (fun K hK => ?_)
          refine opApp rfl (.tmp 101) (.tmp 104) _ rfl hlp.elemB (w.heap.size + 2) _ [] rfl V25.out A3 (hh - 20) c3 ((l.take hh).drop 20) rfl (HR3.out.only_nil QB.out) HC3.out (by simp; omega) (by unfold maxLen; simp; omega) OP.out.lt ?_
          intro v1 wa29 hv hg hb
          refine hK _ _ (Same.grown hg (by have := QB.out.size; have := HBB.out; omega) (fun e => by have := (V25.out.lt _ e).1; have h9 := HBB.out; omega)) ?_
          clear hK K
          try simp only [Act.put, List.setIfInBounds_toArray, List.set_cons_zero, List.set_cons_succ]
          have NE1 : Hid (v1.ownBlock ≠ some g30) := hid (ne_blk (g := g25) hb NE.out (V30.out.lt g30 rfl).2)
          have V30 := hid (V30.out.grown hg (Or.inr (fun e => NE.out (Option.some.inj (show some g30 = some g25 from e)).symm)))
          have OR := hid (OR.out.grown hg (fun e => by have := (V25.out.lt _ e).1; omega)); have OP := hid (OP.out.grown hg (fun e => by have := (V25.out.lt _ e).1; omega)); have QB := hid (QB.out.of_grown hg (fun k hk => .inr (by have := (V25.out.lt k hk).1; omega)))
          have V1 : Hid (Own .u8 5 wa29 (w.heap.size + 2) v1 ((l.take hh).drop 20)) := hid (by simpa using hv)
          obtain ⟨A5, c5, ev5, _, _, _, _⟩ := V1.out.slice
          rw [HOL2.out] at ev5
          subst ev5
          clear hv hg hb V25
          refine rgn.Walk.es ?_
          refine rgn.stepE rfl rfl (fun K hK => ?_)
          refine opApp rfl (.tmp 106) (.tmp 110) _ rfl hlp.elemB (w.heap.size + 2) _ [] rfl V30.out A4 (tt - hh) c4 ((l.take tt).drop hh) rfl (HR4.out.only_nil QB.out) HC4.out (by simp; omega) (by unfold maxLen; simp; omega) OP.out.lt ?_
          intro v2 wa35 hv hg hb
          refine hK _ _ (Same.grown hg (by have := QB.out.size; have := HBB.out; omega) (fun e => by have := (V30.out.lt _ e).1; have h9 := HBB.out; omega)) ?_
          clear hK K
          try simp only [Act.put, List.setIfInBounds_toArray, List.set_cons_zero, List.set_cons_succ]
          have V1 := hid (V1.out.grown hg (Or.inr NE1.out))
          have OR := hid (OR.out.grown hg (fun e => by have := (V30.out.lt _ e).1; omega)); have OP := hid (OP.out.grown hg (fun e => by have := (V30.out.lt _ e).1; omega)); have QB := hid (QB.out.of_grown hg (fun k hk => .inr (by have := (V30.out.lt k hk).1; omega)))
          have V2 : Hid (Own .u8 5 wa35 (w.heap.size + 2) v2 ((l.take tt).drop hh)) := hid (by simpa using hv)
          obtain ⟨A6, c6, ev6, _, _, _, _⟩ := V2.out.slice
          rw [HDL2.out] at ev6
          subst ev6
          clear hv hg hb V30
          refine rgn.Walk.ys (v := ?_) rfl rfl rfl ?_ ?_
          rotate_left 1
          · intro W' hW'
            go_simp
            try with_reducible rfl
          try simp only [Act.put, List.setIfInBounds_toArray, List.set_cons_zero, List.set_cons_succ]
          refine rgn.Walk.es ?_
          refine rgn.stepE rfl rfl (fun K hK => ?_)
          refine opStoreOb rfl 26 _ _ rfl w.heap.size #[.int .i64 sv, .int .i64 v4, .bool wh, .bool mo, .int .i64 (b13 * 8), .int .i64 lf, .int .i64 pr, .int .u32 v12, .int .u32 v16, .slice A5 (hh - 20) c5, .slice A6 (tt - hh) c6] rfl rfl _ _ OR.out rfl (by kernel_rfl) (by simp [Value.oneCell']) (fun W9 hW9 => ?_)
          refine hK _ _ (((Only.refl [w.heap.size] _).eq_all hW9 (Or.inl (by simp))).block b (by have := QB.out.size; have := HBB.out; omega) (by simp; have := HBB.out; omega)) ?_
          clear hK K
          try simp only [Act.put, List.setIfInBounds_toArray, List.set_cons_zero, List.set_cons_succ]
          have OR5 := hid (OR.out.eq_all hW9 rfl); have QB5 := hid (QB.out.eq_all hW9 (Or.inr (by simp))); have QV5 : Hid (Only [w.heap.size] _ W9) := hid ((Only.refl _ _).eq_all hW9 (Or.inl (by simp))); clear hW9
          refine rgn.Walk.es ?_
          refine rgn.stepE rfl rfl (fun K hK => ?_)
          go_simp
          refine hK _ _ ((Same.refl b) _) ?_
          clear hK K
          try simp only [Act.put, List.setIfInBounds_toArray, List.set_cons_zero, List.set_cons_succ]
          refine rgn.Walk.zs (NoPanic.normal ?_)
          have HV5 := hid (V1.out.only QV5.out (fun i hi => by have h9 := (V1.out.lt i hi).1; simp; omega)); have HV6 := hid (V2.out.only QV5.out (fun i hi => by have h9 := (V2.out.lt i hi).1; simp; omega))
          have r0 := OR5.out.cell 0; have r1 := OR5.out.cell 1; have r2 := OR5.out.cell 2; have r3 := OR5.out.cell 3; have r4 := OR5.out.cell 4; have r5 := OR5.out.cell 5; have r6 := OR5.out.cell 6; have r7 := OR5.out.cell 7; have r8 := OR5.out.cell 8; have r9 := OR5.out.cell 9; have r10 := OR5.out.cell 10
          go_wp2
          exact bodyPost_ret (v := .tuple #[.agg #[.int .i64 sv, .int .i64 v4, .bool wh, .bool mo, .int .i64 (b13 * 8), .int .i64 lf, .int .i64 pr, .int .u32 v12, .int .u32 v16, .slice A5 (hh - 20) c5, .slice A6 (tt - hh) c6], .int .i64 0]) (by simp [results, Tryd.results19, go_sem, *]) rfl ⟨_, _, rfl, HV5.out.mono_base (by omega), HV6.out.mono_base (by omega), QB5.out⟩
      · refine rgn.stepE rfl rfl (fun K hK => ?_)
        go_simp
        refine hK _ _ (Same.alloc _ (by have := QB.out.size; have := HBB.out; omega)) ?_
        clear hK K
        try simp only [Act.put, List.setIfInBounds_toArray, List.set_cons_zero, List.set_cons_succ]
        have oA : Only [] wb30 (wb30.alloc (.cells #[] 5)) := (Only.refl [] _).alloc _
        have V25 : Hid (Own .u8 5 (wb30.alloc (.cells #[] 5)) (w.heap.size + 2) (.slice (some ⟨wb30.heap.size, 0, none⟩) 0 0) []) := hid (Own.lit .u8 5 _ (w.heap.size + 2) [] #[] 0 rfl rfl OP.out.lt (by simp) (by simp))
        obtain ⟨wb25, hwb25⟩ : ∃ X, X = (wb30.alloc (.cells #[] 5)) := ⟨_, rfl⟩
        obtain ⟨g25, hg25⟩ : ∃ X, X = wb30.heap.size := ⟨_, rfl⟩
        rw [← hwb25, ← hg25]
        rw [← hwb25, ← hg25] at V25
        rw [← hwb25] at oA
        have NE : Hid (g25 ≠ g30) := hid (by have := (V30.out.lt g30 rfl).2; omega)
        have OR := hid (OR.out.only oA (by simp)); have OP := hid (OP.out.only oA (by simp)); have QB := hid (QB.out.trans oA); have V30 := hid (V30.out.only_nil oA); clear oA hwb25 hg25
        refine rgn.Walk.es ?_
        refine rgn.stepE rfl rfl (fun K hK => ?_)
        go_simp
        refine (callsOnly (ref.get41 _ (some ⟨b, off, none⟩) n c l (HL.out.only_nil QB.out) 12 (by omega) (by omega))).mono ?_
        rw [P12.out]
        rintro x1 wg22 ⟨rfl, og⟩
        refine hK _ _ (Same.only og (by have := QB.out.size; have := HBB.out; omega)) ?_
        clear hK K
        try simp only [Act.put, List.setIfInBounds_toArray, List.set_cons_zero, List.set_cons_succ]
        have OR := hid (OR.out.only og (by simp)); have OP := hid (OP.out.only og (by simp)); have QB := hid (QB.out.trans og); have V25 := hid (V25.out.only_nil og); have V30 := hid (V30.out.only_nil og); clear og
        refine rgn.Walk.es ?_
        refine rgn.stepE rfl rfl (fun K hK => ?_)
        go_simp
        refine (callsOnly (ref.get41 _ (some ⟨b, off, none⟩) n c l (HL.out.only_nil QB.out) 16 (by omega) (by omega))).mono ?_
        rw [P16.out]
        rintro x1 wg24 ⟨rfl, og⟩
        refine hK _ _ (Same.only og (by have := QB.out.size; have := HBB.out; omega)) ?_
        clear hK K
        try simp only [Act.put, List.setIfInBounds_toArray, List.set_cons_zero, List.set_cons_succ]
        have OR := hid (OR.out.only og (by simp)); have OP := hid (OP.out.only og (by simp)); have QB := hid (QB.out.trans og); have V25 := hid (V25.out.only_nil og); have V30 := hid (V30.out.only_nil og); clear og
        refine rgn.Walk.es ?_
        refine rgn.stepE rfl rfl (fun K hK => ?_)
        refine opApp rfl (.tmp 101) (.tmp 104) _ rfl hlp.elemB (w.heap.size + 2) _ [] rfl V25.out A3 (hh - 20) c3 ((l.take hh).drop 20) rfl (HR3.out.only_nil QB.out) HC3.out (by simp; omega) (by unfold maxLen; simp; omega) OP.out.lt ?_
        intro v1 wa29 hv hg hb
        refine hK _ _ (Same.grown hg (by have := QB.out.size; have := HBB.out; omega) (fun e => by have := (V25.out.lt _ e).1; have h9 := HBB.out; omega)) ?_
        clear hK K
        try simp only [Act.put, List.setIfInBounds_toArray, List.set_cons_zero, List.set_cons_succ]
        have NE1 : Hid (v1.ownBlock ≠ some g30) := hid (ne_blk (g := g25) hb NE.out (V30.out.lt g30 rfl).2)
        have V30 := hid (V30.out.grown hg (Or.inr (fun e => NE.out (Option.some.inj (show some g30 = some g25 from e)).symm)))
        have OR := hid (OR.out.grown hg (fun e => by have := (V25.out.lt _ e).1; omega)); have OP := hid (OP.out.grown hg (fun e => by have := (V25.out.lt _ e).1; omega)); have QB := hid (QB.out.of_grown hg (fun k hk => .inr (by have := (V25.out.lt k hk).1; omega)))
        have V1 : Hid (Own .u8 5 wa29 (w.heap.size + 2) v1 ((l.take hh).drop 20)) := hid (by simpa using hv)
        obtain ⟨A5, c5, ev5, _, _, _, _⟩ := V1.out.slice
        rw [HOL2.out] at ev5
        subst ev5
        clear hv hg hb V25
        refine rgn.Walk.es ?_
        refine rgn.stepE rfl rfl (fun K hK => ?_)
        refine opApp rfl (.tmp 106) (.tmp 110) _ rfl hlp.elemB (w.heap.size + 2) _ [] rfl V30.out A4 (tt - hh) c4 ((l.take tt).drop hh) rfl (HR4.out.only_nil QB.out) HC4.out (by simp; omega) (by unfold maxLen; simp; omega) OP.out.lt ?_
        intro v2 wa35 hv hg hb
        refine hK _ _ (Same.grown hg (by have := QB.out.size; have := HBB.out; omega) (fun e => by have := (V30.out.lt _ e).1; have h9 := HBB.out; omega)) ?_
        clear hK K
        try simp only [Act.put, List.setIfInBounds_toArray, List.set_cons_zero, List.set_cons_succ]
        have V1 := hid (V1.out.grown hg (Or.inr NE1.out))
        have OR := hid (OR.out.grown hg (fun e => by have := (V30.out.lt _ e).1; omega)); have OP := hid (OP.out.grown hg (fun e => by have := (V30.out.lt _ e).1; omega)); have QB := hid (QB.out.of_grown hg (fun k hk => .inr (by have := (V30.out.lt k hk).1; omega)))
        have V2 : Hid (Own .u8 5 wa35 (w.heap.size + 2) v2 ((l.take tt).drop hh)) := hid (by simpa using hv)
        obtain ⟨A6, c6, ev6, _, _, _, _⟩ := V2.out.slice
        rw [HDL2.out] at ev6
        subst ev6
        clear hv hg hb V30
        refine rgn.Walk.ys (v := ?_) rfl rfl rfl ?_ ?_
        rotate_left 1
        · intro W' hW'
          go_simp
          try with_reducible rfl
        try simp only [Act.put, List.setIfInBounds_toArray, List.set_cons_zero, List.set_cons_succ]
        refine rgn.Walk.es ?_
        refine rgn.stepE rfl rfl (fun K hK => ?_)
        refine opStoreOb rfl 26 _ _ rfl w.heap.size #[.int .i64 sv, .int .i64 v4, .bool wh, .bool mo, .int .i64 (b13 * 8), .int .i64 lf, .int .i64 pr, .int .u32 v12, .int .u32 v16, .slice A5 (hh - 20) c5, .slice A6 (tt - hh) c6] rfl rfl _ _ OR.out rfl (by kernel_rfl) (by simp [Value.oneCell']) (fun W9 hW9 => ?_)
        refine hK _ _ (((Only.refl [w.heap.size] _).eq_all hW9 (Or.inl (by simp))).block b (by have := QB.out.size; have := HBB.out; omega) (by simp; have := HBB.out; omega)) ?_
        clear hK K
        try simp only [Act.put, List.setIfInBounds_toArray, List.set_cons_zero, List.set_cons_succ]
        have OR5 := hid (OR.out.eq_all hW9 rfl); have QB5 := hid (QB.out.eq_all hW9 (Or.inr (by simp))); have QV5 : Hid (Only [w.heap.size] _ W9) := hid ((Only.refl _ _).eq_all hW9 (Or.inl (by simp))); clear hW9
        refine rgn.Walk.es ?_
        refine rgn.stepE rfl rfl (fun K hK => ?_)
        go_simp
        refine hK _ _ ((Same.refl b) _) ?_
        clear hK K
        try simp only [Act.put, List.setIfInBounds_toArray, List.set_cons_zero, List.set_cons_succ]
        refine rgn.Walk.zs (NoPanic.normal ?_)
        have HV5 := hid (V1.out.only QV5.out (fun i hi => by have h9 := (V1.out.lt i hi).1; simp; omega)); have HV6 := hid (V2.out.only QV5.out (fun i hi => by have h9 := (V2.out.lt i hi).1; simp; omega))
        have r0 := OR5.out.cell 0; have r1 := OR5.out.cell 1; have r2 := OR5.out.cell 2; have r3 := OR5.out.cell 3; have r4 := OR5.out.cell 4; have r5 := OR5.out.cell 5; have r6 := OR5.out.cell 6; have r7 := OR5.out.cell 7; have r8 := OR5.out.cell 8; have r9 := OR5.out.cell 9; have r10 := OR5.out.cell 10
        go_wp2
        exact bodyPost_ret (v := .tuple #[.agg #[.int .i64 sv, .int .i64 v4, .bool wh, .bool mo, .int .i64 (b13 * 8), .int .i64 lf, .int .i64 pr, .int .u32 v12, .int .u32 v16, .slice A5 (hh - 20) c5, .slice A6 (tt - hh) c6], .int .i64 0]) (by simp [results, Tryd.results19, go_sem, *]) rfl ⟨_, _, rfl, HV5.out.mono_base (by omega), HV6.out.mono_base (by omega), QB5.out⟩
  · refine rgn.stepE rfl rfl (fun K hK => ?_)
    go_simp
    refine hK _ _ (Same.alloc _ (by have := QB.out.size; have := HBB.out; omega)) ?_
    clear hK K
    try simp only [Act.put, List.setIfInBounds_toArray, List.set_cons_zero, List.set_cons_succ]
    have oA : Only [] W (W.alloc (.cells #[] 5)) := (Only.refl [] _).alloc _
    have V25 : Hid (Own .u8 5 (W.alloc (.cells #[] 5)) (w.heap.size + 2) (.slice (some ⟨W.heap.size, 0, none⟩) 0 0) []) := hid (Own.lit .u8 5 _ (w.heap.size + 2) [] #[] 0 rfl rfl OP.out.lt (by simp) (by simp))
    obtain ⟨wb25, hwb25⟩ : ∃ X, X = (W.alloc (.cells #[] 5)) := ⟨_, rfl⟩
    obtain ⟨g25, hg25⟩ : ∃ X, X = W.heap.size := ⟨_, rfl⟩
    rw [← hwb25, ← hg25]
    rw [← hwb25, ← hg25] at V25
    rw [← hwb25] at oA
    have OR := hid (OR.out.only oA (by simp)); have OP := hid (OP.out.only oA (by simp)); have QB := hid (QB.out.trans oA); clear oA hwb25 hg25
    refine rgn.Walk.bs ?_ ?_
    · refine rgn.stepE rfl rfl (fun K hK => ?_)
      go_simp
      refine (callsOnly (ref.get21 _ (some ⟨b, off, none⟩) n c l (HL.out.only_nil QB.out) 4 (by omega) (by omega))).mono ?_
      rw [P4.out]
      rintro x1 wg5 ⟨rfl, og⟩
      refine hK _ _ (Same.only og (by have := QB.out.size; have := HBB.out; omega)) ?_
      clear hK K
      try simp only [Act.put, List.setIfInBounds_toArray, List.set_cons_zero, List.set_cons_succ]
      have OR := hid (OR.out.only og (by simp)); have OP := hid (OP.out.only og (by simp)); have QB := hid (QB.out.trans og); have V25 := hid (V25.out.only_nil og); clear og
      refine rgn.Walk.bs ?_ ?_
      · refine rgn.stepE rfl rfl (fun K hK => ?_)
        go_simp
        refine (callsOnly (ref.get41 _ (some ⟨b, off, none⟩) n c l (HL.out.only_nil QB.out) 12 (by omega) (by omega))).mono ?_
        rw [P12.out]
        rintro x1 wg22 ⟨rfl, og⟩
        refine hK _ _ (Same.only og (by have := QB.out.size; have := HBB.out; omega)) ?_
        clear hK K
        try simp only [Act.put, List.setIfInBounds_toArray, List.set_cons_zero, List.set_cons_succ]
        have OR := hid (OR.out.only og (by simp)); have OP := hid (OP.out.only og (by simp)); have QB := hid (QB.out.trans og); have V25 := hid (V25.out.only_nil og); clear og
        refine rgn.Walk.bs ?_ ?_
        · refine rgn.stepE rfl rfl (fun K hK => ?_)
          go_simp
          refine (callsOnly (ref.get41 _ (some ⟨b, off, none⟩) n c l (HL.out.only_nil QB.out) 16 (by omega) (by omega))).mono ?_
          rw [P16.out]
          rintro x1 wg24 ⟨rfl, og⟩
          refine hK _ _ (Same.only og (by have := QB.out.size; have := HBB.out; omega)) ?_
          clear hK K
          try simp only [Act.put, List.setIfInBounds_toArray, List.set_cons_zero, List.set_cons_succ]
          have OR := hid (OR.out.only og (by simp)); have OP := hid (OP.out.only og (by simp)); have QB := hid (QB.out.trans og); have V25 := hid (V25.out.only_nil og); clear og
          refine rgn.Walk.bs ?_ ?_
          · refine rgn.stepE rfl rfl (fun K hK => ?_)
            refine opApp rfl (.tmp 101) (.tmp 104) _ rfl hlp.elemB (w.heap.size + 2) _ [] rfl V25.out A3 (hh - 20) c3 ((l.take hh).drop 20) rfl (HR3.out.only_nil QB.out) HC3.out (by simp; omega) (by unfold maxLen; simp; omega) OP.out.lt ?_
            intro v1 wa29 hv hg hb
            refine hK _ _ (Same.grown hg (by have := QB.out.size; have := HBB.out; omega) (fun e => by have := (V25.out.lt _ e).1; have h9 := HBB.out; omega)) ?_
            clear hK K
            try simp only [Act.put, List.setIfInBounds_toArray, List.set_cons_zero, List.set_cons_succ]
            have OR := hid (OR.out.grown hg (fun e => by have := (V25.out.lt _ e).1; omega)); have OP := hid (OP.out.grown hg (fun e => by have := (V25.out.lt _ e).1; omega)); have QB := hid (QB.out.of_grown hg (fun k hk => .inr (by have := (V25.out.lt k hk).1; omega)))
            have V1 : Hid (Own .u8 5 wa29 (w.heap.size + 2) v1 ((l.take hh).drop 20)) := hid (by simpa using hv)
            obtain ⟨A5, c5, ev5, _, _, _, _⟩ := V1.out.slice
            rw [HOL2.out] at ev5
            subst ev5
            clear hv hg hb V25
            refine rgn.Walk.es ?_
            refine rgn.stepE rfl rfl (fun K hK => ?_)
            go_simp
            refine hK _ _ (Same.alloc _ (by have := QB.out.size; have := HBB.out; omega)) ?_
            clear hK K
            try simp only [Act.put, List.setIfInBounds_toArray, List.set_cons_zero, List.set_cons_succ]
            have oA : Only [] wa29 (wa29.alloc (.cells #[] 5)) := (Only.refl [] _).alloc _
            have V30 : Hid (Own .u8 5 (wa29.alloc (.cells #[] 5)) (w.heap.size + 2) (.slice (some ⟨wa29.heap.size, 0, none⟩) 0 0) []) := hid (Own.lit .u8 5 _ (w.heap.size + 2) [] #[] 0 rfl rfl OP.out.lt (by simp) (by simp))
            obtain ⟨wb30, hwb30⟩ : ∃ X, X = (wa29.alloc (.cells #[] 5)) := ⟨_, rfl⟩
            obtain ⟨g30, hg30⟩ : ∃ X, X = wa29.heap.size := ⟨_, rfl⟩
            rw [← hwb30, ← hg30]
            rw [← hwb30, ← hg30] at V30
            rw [← hwb30] at oA
            have NE1 : Hid ((Value.slice A5 (hh - 20) c5).ownBlock ≠ some g30) := hid (fun e => by have := (V1.out.lt _ e).2; omega)
            have OR := hid (OR.out.only oA (by simp)); have OP := hid (OP.out.only oA (by simp)); have QB := hid (QB.out.trans oA); have V1 := hid (V1.out.only_nil oA); clear oA hwb30 hg30
            refine rgn.Walk.es ?_
            refine rgn.stepE rfl rfl (fun K hK => ?_)
            refine opApp rfl (.tmp 106) (.tmp 110) _ rfl hlp.elemB (w.heap.size + 2) _ [] rfl V30.out A4 (tt - hh) c4 ((l.take tt).drop hh) rfl (HR4.out.only_nil QB.out) HC4.out (by simp; omega) (by unfold maxLen; simp; omega) OP.out.lt ?_
            intro v2 wa35 hv hg hb
            refine hK _ _ (Same.grown hg (by have := QB.out.size; have := HBB.out; omega) (fun e => by have := (V30.out.lt _ e).1; have h9 := HBB.out; omega)) ?_
            clear hK K
            try simp only [Act.put, List.setIfInBounds_toArray, List.set_cons_zero, List.set_cons_succ]
            have V1 := hid (V1.out.grown hg (Or.inr NE1.out))
            have OR := hid (OR.out.grown hg (fun e => by have := (V30.out.lt _ e).1; omega)); have OP := hid (OP.out.grown hg (fun e => by have := (V30.out.lt _ e).1; omega)); have QB := hid (QB.out.of_grown hg (fun k hk => .inr (by have := (V30.out.lt k hk).1; omega)))
            have V2 : Hid (Own .u8 5 wa35 (w.heap.size + 2) v2 ((l.take tt).drop hh)) := hid (by simpa using hv)
            obtain ⟨A6, c6, ev6, _, _, _, _⟩ := V2.out.slice
            rw [HDL2.out] at ev6
            subst ev6
            clear hv hg hb V30
            refine rgn.Walk.ys (v := ?_) rfl rfl rfl ?_ ?_
            rotate_left 1
            · intro W' hW'
              go_simp
              try with_reducible rfl
            try simp only [Act.put, List.setIfInBounds_toArray, List.set_cons_zero, List.set_cons_succ]
            refine rgn.Walk.es ?_
            refine rgn.stepE rfl rfl (fun K hK => ?_)
            refine opStoreOb rfl 26 _ _ rfl w.heap.size #[.int .i64 sv, .int .i64 v4, .bool wh, .bool mo, .int .i64 (b13 * 8), .int .i64 lf, .int .i64 pr, .int .u32 v12, .int .u32 v16, .slice A5 (hh - 20) c5, .slice A6 (tt - hh) c6] rfl rfl _ _ OR.out rfl (by kernel_rfl) (by simp [Value.oneCell']) (fun W9 hW9 => ?_)
            refine hK _ _ (((Only.refl [w.heap.size] _).eq_all hW9 (Or.inl (by simp))).block b (by have := QB.out.size; have := HBB.out; omega) (by simp; have := HBB.out; omega)) ?_
            clear hK K
            try simp only [Act.put, List.setIfInBounds_toArray, List.set_cons_zero, List.set_cons_succ]
            have OR5 := hid (OR.out.eq_all hW9 rfl); have QB5 := hid (QB.out.eq_all hW9 (Or.inr (by simp))); have QV5 : Hid (Only [w.heap.size] _ W9) := hid ((Only.refl _ _).eq_all hW9 (Or.inl (by simp))); clear hW9
            refine rgn.Walk.es ?_
            refine rgn.stepE rfl rfl (fun K hK => ?_)
            go_simp
            refine hK _ _ ((Same.refl b) _) ?_
            clear hK K
            try simp only [Act.put, List.setIfInBounds_toArray, List.set_cons_zero, List.set_cons_succ]
            refine rgn.Walk.zs (NoPanic.normal ?_)
            have HV5 := hid (V1.out.only QV5.out (fun i hi => by have h9 := (V1.out.lt i hi).1; simp; omega)); have HV6 := hid (V2.out.only QV5.out (fun i hi => by have h9 := (V2.out.lt i hi).1; simp; omega))
            have r0 := OR5.out.cell 0; have r1 := OR5.out.cell 1; have r2 := OR5.out.cell 2; have r3 := OR5.out.cell 3; have r4 := OR5.out.cell 4; have r5 := OR5.out.cell 5; have r6 := OR5.out.cell 6; have r7 := OR5.out.cell 7; have r8 := OR5.out.cell 8; have r9 := OR5.out.cell 9; have r10 := OR5.out.cell 10
            go_wp2
            exact bodyPost_ret (v := .tuple #[.agg #[.int .i64 sv, .int .i64 v4, .bool wh, .bool mo, .int .i64 (b13 * 8), .int .i64 lf, .int .i64 pr, .int .u32 v12, .int .u32 v16, .slice A5 (hh - 20) c5, .slice A6 (tt - hh) c6], .int .i64 0]) (by simp [results, Tryd.results19, go_sem, *]) rfl ⟨_, _, rfl, HV5.out.mono_base (by omega), HV6.out.mono_base (by omega), QB5.out⟩
          · refine rgn.stepE rfl rfl (fun K hK => ?_)
            go_simp
            refine hK _ _ (Same.alloc _ (by have := QB.out.size; have := HBB.out; omega)) ?_
            clear hK K
            try simp only [Act.put, List.setIfInBounds_toArray, List.set_cons_zero, List.set_cons_succ]
            have oA : Only [] wg24 (wg24.alloc (.cells #[] 5)) := (Only.refl [] _).alloc _
            have V30 : Hid (Own .u8 5 (wg24.alloc (.cells #[] 5)) (w.heap.size + 2) (.slice (some ⟨wg24.heap.size, 0, none⟩) 0 0) []) := hid (Own.lit .u8 5 _ (w.heap.size + 2) [] #[] 0 rfl rfl OP.out.lt (by simp) (by simp))
            obtain ⟨wb30, hwb30⟩ : ∃ X, X = (wg24.alloc (.cells #[] 5)) := ⟨_, rfl⟩
            obtain ⟨g30, hg30⟩ : ∃ X, X = wg24.heap.size := ⟨_, rfl⟩
            rw [← hwb30, ← hg30]
            rw [← hwb30, ← hg30] at V30
            rw [← hwb30] at oA
            have NE : Hid (g25 ≠ g30) := hid (by have := (V25.out.lt g25 rfl).2; omega)
            have OR := hid (OR.out.only oA (by simp)); have OP := hid (OP.out.only oA (by simp)); have QB := hid (QB.out.trans oA); have V25 := hid (V25.out.only_nil oA); clear oA hwb30 hg30
            refine rgn.Walk.es ?_
            refine rgn.stepE rfl rfl (fun K hK => ?_)
            refine opApp rfl (.tmp 101) (.tmp 104) _ rfl hlp.elemB (w.heap.size + 2) _ [] rfl V25.out A3 (hh - 20) c3 ((l.take hh).drop 20) rfl (HR3.out.only_nil QB.out) HC3.out (by simp; omega) (by unfold maxLen; simp; omega) OP.out.lt ?_
            intro v1 wa29 hv hg hb
            refine hK _ _ (Same.grown hg (by have := QB.out.size; have := HBB.out; omega) (fun e => by have := (V25.out.lt _ e).1; have h9 := HBB.out; omega)) ?_
            clear hK K
            try simp only [Act.put, List.setIfInBounds_toArray, List.set_cons_zero, List.set_cons_succ]
            have NE1 : Hid (v1.ownBlock ≠ some g30) := hid (ne_blk (g := g25) hb NE.out (V30.out.lt g30 rfl).2)
            have V30 := hid (V30.out.grown hg (Or.inr (fun e => NE.out (Option.some.inj (show some g30 = some g25 from e)).symm)))
            have OR := hid (OR.out.grown hg (fun e => by have := (V25.out.lt _ e).1; omega)); have OP := hid (OP.out.grown hg (fun e => by have := (V25.out.lt _ e).1; omega)); have QB := hid (QB.out.of_grown hg (fun k hk => .inr (by have := (V25.out.lt k hk).1; omega)))
            have V1 : Hid (Own .u8 5 wa29 (w.heap.size + 2) v1 ((l.take hh).drop 20)) := hid (by simpa using hv)
            obtain ⟨A5, c5, ev5, _, _, _, _⟩ := V1.out.slice
            rw [HOL2.out] at ev5
            subst ev5
            clear hv hg hb V25
            refine rgn.Walk.es ?_
            refine rgn.stepE rfl rfl (fun K hK => ?_)
            refine opApp rfl (.tmp 106) (.tmp 110) _ rfl hlp.elemB (w.heap.size + 2) _ [] rfl V30.out A4 (tt - hh) c4 ((l.take tt).drop hh) rfl (HR4.out.only_nil QB.out) HC4.out (by simp; omega) (by unfold maxLen; simp; omega) OP.out.lt ?_
            intro v2 wa35 hv hg hb
            refine hK _ _ (Same.grown hg (by have := QB.out.size; have := HBB.out; omega) (fun e => by have := (V30.out.lt _ e).1; have h9 := HBB.out; omega)) ?_
            clear hK K
            try simp only [Act.put, List.setIfInBounds_toArray, List.set_cons_zero, List.set_cons_succ]
            have V1 := hid (V1.out.grown hg (Or.inr NE1.out))
            have OR := hid (OR.out.grown hg (fun e => by have := (V30.out.lt _ e).1; omega)); have OP := hid (OP.out.grown hg (fun e => by have := (V30.out.lt _ e).1; omega)); have QB := hid (QB.out.of_grown hg (fun k hk => .inr (by have := (V30.out.lt k hk).1; omega)))
            have V2 : Hid (Own .u8 5 wa35 (w.heap.size + 2) v2 ((l.take tt).drop hh)) := hid (by simpa using hv)
            obtain ⟨A6, c6, ev6, _, _, _, _⟩ := V2.out.slice
            rw [HDL2.out] at ev6
            subst ev6
            clear hv hg hb V30
            refine rgn.Walk.ys (v := ?_) rfl rfl rfl ?_ ?_
            rotate_left 1
            · intro W' hW'
              go_simp
              try with_reducible rfl
            try simp only [Act.put, List.setIfInBounds_toArray, List.set_cons_zero, List.set_cons_succ]
            refine rgn.Walk.es ?_
            refine rgn.stepE rfl rfl (fun K hK => ?_)
            refine opStoreOb rfl 26 _ _ rfl w.heap.size #[.int .i64 sv, .int .i64 v4, .bool wh, .bool mo, .int .i64 (b13 * 8), .int .i64 lf, .int .i64 pr, .int .u32 v12, .int .u32 v16, .slice A5 (hh - 20) c5, .slice A6 (tt - hh) c6] rfl rfl _ _ OR.out rfl (by kernel_rfl) (by simp [Value.oneCell']) (fun W9 hW9 => ?_)
            refine hK _ _ (((Only.refl [w.heap.size] _).eq_all hW9 (Or.inl (by simp))).block b (by have := QB.out.size; have := HBB.out; omega) (by simp; have := HBB.out; omega)) ?_
            clear hK K
            try simp only [Act.put, List.setIfInBounds_toArray, List.set_cons_zero, List.set_cons_succ]
            have OR5 := hid (OR.out.eq_all hW9 rfl); have QB5 := hid (QB.out.eq_all hW9 (Or.inr (by simp))); have QV5 : Hid (Only [w.heap.size] _ W9) := hid ((Only.refl _ _).eq_all hW9 (Or.inl (by simp))); clear hW9
            refine rgn.Walk.es ?_
            refine rgn.stepE rfl rfl (fun K hK => ?_)
            go_simp
            refine hK _ _ ((Same.refl b) _) ?_
            clear hK K
            try simp only [Act.put, List.setIfInBounds_toArray, List.set_cons_zero, List.set_cons_succ]
            refine rgn.Walk.zs (NoPanic.normal ?_)
            have HV5 := hid (V1.out.only QV5.out (fun i hi => by have h9 := (V1.out.lt i hi).1; simp; omega)); have HV6 := hid (V2.out.only QV5.out (fun i hi => by have h9 := (V2.out.lt i hi).1; simp; omega))
            have r0 := OR5.out.cell 0; have r1 := OR5.out.cell 1; have r2 := OR5.out.cell 2; have r3 := OR5.out.cell 3; have r4 := OR5.out.cell 4; have r5 := OR5.out.cell 5; have r6 := OR5.out.cell 6; have r7 := OR5.out.cell 7; have r8 := OR5.out.cell 8; have r9 := OR5.out.cell 9; have r10 := OR5.out.cell 10
            go_wp2
            exact bodyPost_ret (v := .tuple #[.agg #[.int .i64 sv, .int .i64 v4, .bool wh, .bool mo, .int .i64 (b13 * 8), .int .i64 lf, .int .i64 pr, .int .u32 v12, .int .u32 v16, .slice A5 (hh - 20) c5, .slice A6 (tt - hh) c6], .int .i64 0]) (by simp [results, Tryd.results19, go_sem, *]) rfl ⟨_, _, rfl, HV5.out.mono_base (by omega), HV6.out.mono_base (by omega), QB5.out⟩
        · refine rgn.stepE rfl rfl (fun K hK => ?_)
          go_simp
          refine hK _ _ (Same.alloc _ (by have := QB.out.size; have := HBB.out; omega)) ?_
          clear hK K
          try simp only [Act.put, List.setIfInBounds_toArray, List.set_cons_zero, List.set_cons_succ]
          have oA : Only [] wg22 (wg22.alloc (.cells #[] 5)) := (Only.refl [] _).alloc _
          have V30 : Hid (Own .u8 5 (wg22.alloc (.cells #[] 5)) (w.heap.size + 2) (.slice (some ⟨wg22.heap.size, 0, none⟩) 0 0) []) := hid (Own.lit .u8 5 _ (w.heap.size + 2) [] #[] 0 rfl rfl OP.out.lt (by simp) (by simp))
          obtain ⟨wb30, hwb30⟩ : ∃ X, X = (wg22.alloc (.cells #[] 5)) := ⟨_, rfl⟩
          obtain ⟨g30, hg30⟩ : ∃ X, X = wg22.heap.size := ⟨_, rfl⟩
          rw [← hwb30, ← hg30]
          rw [← hwb30, ← hg30] at V30
          rw [← hwb30] at oA
          have NE : Hid (g25 ≠ g30) := hid (by have := (V25.out.lt g25 rfl).2; omega)
          have OR := hid (OR.out.only oA (by simp)); have OP := hid (OP.out.only oA (by simp)); have QB := hid (QB.out.trans oA); have V25 := hid (V25.out.only_nil oA); clear oA hwb30 hg30
          refine rgn.Walk.es ?_
          refine rgn.stepE rfl rfl (fun K hK => ?_)
          go_simp
          refine (callsOnly (ref.get41 _ (some ⟨b, off, none⟩) n c l (HL.out.only_nil QB.out) 16 (by omega) (by omega))).mono ?_
          rw [P16.out]
          rintro x1 wg24 ⟨rfl, og⟩
          refine hK _ _ (Same.only og (by have := QB.out.size; have := HBB.out; omega)) ?_
          clear hK K
          try simp only [Act.put, List.setIfInBounds_toArray, List.set_cons_zero, List.set_cons_succ]
          have OR := hid (OR.out.only og (by simp)); have OP := hid (OP.out.only og (by simp)); have QB := hid (QB.out.trans og); have V25 := hid (V25.out.only_nil og); have V30 := hid (V30.out.only_nil og); clear og
          refine rgn.Walk.es ?_
          refine rgn.stepE rfl rfl (fun K hK => ?_)
          refine opApp rfl (.tmp 101) (.tmp 104) _ rfl hlp.elemB (w.heap.size + 2) _ [] rfl V25.out A3 (hh - 20) c3 ((l.take hh).drop 20) rfl (HR3.out.only_nil QB.out) HC3.out (by simp; omega) (by unfold maxLen; simp; omega) OP.out.lt ?_
          intro v1 wa29 hv hg hb
          refine hK _ _ (Same.grown hg (by have := QB.out.size; have := HBB.out; omega) (fun e => by have := (V25.out.lt _ e).1; have h9 := HBB.out; omega)) ?_
          clear hK K
          try simp only [Act.put, List.setIfInBounds_toArray, List.set_cons_zero, List.set_cons_succ]
          have NE1 : Hid (v1.ownBlock ≠ some g30) := hid (ne_blk (g := g25) hb NE.out (V30.out.lt g30 rfl).2)
          have V30 := hid (V30.out.grown hg (Or.inr (fun e => NE.out (Option.some.inj (show some g30 = some g25 from e)).symm)))
          have OR := hid (OR.out.grown hg (fun e => by have := (V25.out.lt _ e).1; omega)); have OP := hid (OP.out.grown hg (fun e => by have := (V25.out.lt _ e).1; omega)); have QB := hid (QB.out.of_grown hg (fun k hk => .inr (by have := (V25.out.lt k hk).1; omega)))
          have V1 : Hid (Own .u8 5 wa29 (w.heap.size + 2) v1 ((l.take hh).drop 20)) := hid (by simpa using hv)
          obtain ⟨A5, c5, ev5, _, _, _, _⟩ := V1.out.slice
          rw [HOL2.out] at ev5
          subst ev5
          clear hv hg hb V25
          refine rgn.Walk.es ?_
          refine rgn.stepE rfl rfl (fun K hK => ?_)
          refine opApp rfl (.tmp 106) (.tmp 110) _ rfl hlp.elemB (w.heap.size + 2) _ [] rfl V30.out A4 (tt - hh) c4 ((l.take tt).drop hh) rfl (HR4.out.only_nil QB.out) HC4.out (by simp; omega) (by unfold maxLen; simp; omega) OP.out.lt ?_
          intro v2 wa35 hv hg hb
          refine hK _ _ (Same.grown hg (by have := QB.out.size; have := HBB.out; omega) (fun e => by have := (V30.out.lt _ e).1; have h9 := HBB.out; omega)) ?_
          clear hK K
          try simp only [Act.put, List.setIfInBounds_toArray, List.set_cons_zero, List.set_cons_succ]
          have V1 := hid (V1.out.grown hg (Or.inr NE1.out))
          have OR := hid (OR.out.grown hg (fun e => by have := (V30.out.lt _ e).1; omega)); have OP := hid (OP.out.grown hg (fun e => by have := (V30.out.lt _ e).1; omega)); have QB := hid (QB.out.of_grown hg (fun k hk => .inr (by have := (V30.out.lt k hk).1; omega)))
          have V2 : Hid (Own .u8 5 wa35 (w.heap.size + 2) v2 ((l.take tt).drop hh)) := hid (by simpa using hv)
          obtain ⟨A6, c6, ev6, _, _, _, _⟩ := V2.out.slice
          rw [HDL2.out] at ev6
          subst ev6
          clear hv hg hb V30
          refine rgn.Walk.ys (v := ?_) rfl rfl rfl ?_ ?_
          rotate_left 1
          · intro W' hW'
            go_simp
            try with_reducible rfl
          try simp only [Act.put, List.setIfInBounds_toArray, List.set_cons_zero, List.set_cons_succ]
          refine rgn.Walk.es ?_
          refine rgn.stepE rfl rfl (fun K hK => ?_)
          refine opStoreOb rfl 26 _ _ rfl w.heap.size #[.int .i64 sv, .int .i64 v4, .bool wh, .bool mo, .int .i64 (b13 * 8), .int .i64 lf, .int .i64 pr, .int .u32 v12, .int .u32 v16, .slice A5 (hh - 20) c5, .slice A6 (tt - hh) c6] rfl rfl _ _ OR.out rfl (by kernel_rfl) (by simp [Value.oneCell']) (fun W9 hW9 => ?_)
          refine hK _ _ (((Only.refl [w.heap.size] _).eq_all hW9 (Or.inl (by simp))).block b (by have := QB.out.size; have := HBB.out; omega) (by simp; have := HBB.out; omega)) ?_
          clear hK K
          try simp only [Act.put, List.setIfInBounds_toArray, List.set_cons_zero, List.set_cons_succ]
          have OR5 := hid (OR.out.eq_all hW9 rfl); have QB5 := hid (QB.out.eq_all hW9 (Or.inr (by simp))); have QV5 : Hid (Only [w.heap.size] _ W9) := hid ((Only.refl _ _).eq_all hW9 (Or.inl (by simp))); clear hW9
          refine rgn.Walk.es ?_
          refine rgn.stepE rfl rfl (fun K hK => ?_)
          go_simp
          refine hK _ _ ((Same.refl b) _) ?_
          clear hK K
          try simp only [Act.put, List.setIfInBounds_toArray, List.set_cons_zero, List.set_cons_succ]
          refine rgn.Walk.zs (NoPanic.normal ?_)
          have HV5 := hid (V1.out.only QV5.out (fun i hi => by have h9 := (V1.out.lt i hi).1; simp; omega)); have HV6 := hid (V2.out.only QV5.out (fun i hi => by have h9 := (V2.out.lt i hi).1; simp; omega))
          have r0 := OR5.out.cell 0; have r1 := OR5.out.cell 1; have r2 := OR5.out.cell 2; have r3 := OR5.out.cell 3; have r4 := OR5.out.cell 4; have r5 := OR5.out.cell 5; have r6 := OR5.out.cell 6; have r7 := OR5.out.cell 7; have r8 := OR5.out.cell 8; have r9 := OR5.out.cell 9; have r10 := OR5.out.cell 10
          go_wp2
          exact bodyPost_ret (v := .tuple #[.agg #[.int .i64 sv, .int .i64 v4, .bool wh, .bool mo, .int .i64 (b13 * 8), .int .i64 lf, .int .i64 pr, .int .u32 v12, .int .u32 v16, .slice A5 (hh - 20) c5, .slice A6 (tt - hh) c6], .int .i64 0]) (by simp [results, Tryd.results19, go_sem, *]) rfl ⟨_, _, rfl, HV5.out.mono_base (by omega), HV6.out.mono_base (by omega), QB5.out⟩
      · refine rgn.stepE rfl rfl (fun K hK => ?_)
        go_simp
        refine hK _ _ (Same.alloc _ (by have := QB.out.size; have := HBB.out; omega)) ?_
        clear hK K
        try simp only [Act.put, List.setIfInBounds_toArray, List.set_cons_zero, List.set_cons_succ]
        have oA : Only [] wg5 (wg5.alloc (.cells #[] 5)) := (Only.refl [] _).alloc _
        have V30 : Hid (Own .u8 5 (wg5.alloc (.cells #[] 5)) (w.heap.size + 2) (.slice (some ⟨wg5.heap.size, 0, none⟩) 0 0) []) := hid (Own.lit .u8 5 _ (w.heap.size + 2) [] #[] 0 rfl rfl OP.out.lt (by simp) (by simp))
        obtain ⟨wb30, hwb30⟩ : ∃ X, X = (wg5.alloc (.cells #[] 5)) := ⟨_, rfl⟩
        obtain ⟨g30, hg30⟩ : ∃ X, X = wg5.heap.size := ⟨_, rfl⟩
        rw [← hwb30, ← hg30]
        rw [← hwb30, ← hg30] at V30
        rw [← hwb30] at oA
        have NE : Hid (g25 ≠ g30) := hid (by have := (V25.out.lt g25 rfl).2; omega)
        have OR := hid (OR.out.only oA (by simp)); have OP := hid (OP.out.only oA (by simp)); have QB := hid (QB.out.trans oA); have V25 := hid (V25.out.only_nil oA); clear oA hwb30 hg30
        refine rgn.Walk.es ?_
        refine rgn.stepE rfl rfl (fun K hK => ?_)
        go_simp
        refine (callsOnly (ref.get41 _ (some ⟨b, off, none⟩) n c l (HL.out.only_nil QB.out) 12 (by omega) (by omega))).mono ?_
        rw [P12.out]
        rintro x1 wg22 ⟨rfl, og⟩
        refine hK _ _ (Same.only og (by have := QB.out.size; have := HBB.out; omega)) ?_
        clear hK K
        try simp only [Act.put, List.setIfInBounds_toArray, List.set_cons_zero, List.set_cons_succ]
        have OR := hid (OR.out.only og (by simp)); have OP := hid (OP.out.only og (by simp)); have QB := hid (QB.out.trans og); have V25 := hid (V25.out.only_nil og); have V30 := hid (V30.out.only_nil og); clear og
        refine rgn.Walk.es ?_
        refine rgn.stepE rfl rfl (fun K hK => ?_)
        go_simp
        refine (callsOnly (ref.get41 _ (some ⟨b, off, none⟩) n c l (HL.out.only_nil QB.out) 16 (by omega) (by omega))).mono ?_
        rw [P16.out]
        rintro x1 wg24 ⟨rfl, og⟩
        refine hK _ _ (Same.only og (by have := QB.out.size; have := HBB.out; omega)) ?_
        clear hK K
        try simp only [Act.put, List.setIfInBounds_toArray, List.set_cons_zero, List.set_cons_succ]
        have OR := hid (OR.out.only og (by simp)); have OP := hid (OP.out.only og (by simp)); have QB := hid (QB.out.trans og); have V25 := hid (V25.out.only_nil og); have V30 := hid (V30.out.only_nil og); clear og
        refine rgn.Walk.es ?_
        refine rgn.stepE rfl rfl (fun K hK => ?_)
        refine opApp rfl (.tmp 101) (.tmp 104) _ rfl hlp.elemB (w.heap.size + 2) _ [] rfl V25.out A3 (hh - 20) c3 ((l.take hh).drop 20) rfl (HR3.out.only_nil QB.out) HC3.out (by simp; omega) (by unfold maxLen; simp; omega) OP.out.lt ?_
        intro v1 wa29 hv hg hb
        refine hK _ _ (Same.grown hg (by have := QB.out.size; have := HBB.out; omega) (fun e => by have := (V25.out.lt _ e).1; have h9 := HBB.out; omega)) ?_
        clear hK K
        try simp only [Act.put, List.setIfInBounds_toArray, List.set_cons_zero, List.set_cons_succ]
        have NE1 : Hid (v1.ownBlock ≠ some g30) := hid (ne_blk (g := g25) hb NE.out (V30.out.lt g30 rfl).2)
        have V30 := hid (V30.out.grown hg (Or.inr (fun e => NE.out (Option.some.inj (show some g30 = some g25 from e)).symm)))
        have OR := hid (OR.out.grown hg (fun e => by have := (V25.out.lt _ e).1; omega)); have OP := hid (OP.out.grown hg (fun e => by have := (V25.out.lt _ e).1; omega)); have QB := hid (QB.out.of_grown hg (fun k hk => .inr (by have := (V25.out.lt k hk).1; omega)))
        have V1 : Hid (Own .u8 5 wa29 (w.heap.size + 2) v1 ((l.take hh).drop 20)) := hid (by simpa using hv)
        obtain ⟨A5, c5, ev5, _, _, _, _⟩ := V1.out.slice
        rw [HOL2.out] at ev5
        subst ev5
        clear hv hg hb V25
        refine rgn.Walk.es ?_
        refine rgn.stepE rfl rfl (fun K hK => ?_)
        refine opApp rfl (.tmp 106) (.tmp 110) _ rfl hlp.elemB (w.heap.size + 2) _ [] rfl V30.out A4 (tt - hh) c4 ((l.take tt).drop hh) rfl (HR4.out.only_nil QB.out) HC4.out (by simp; omega) (by unfold maxLen; simp; omega) OP.out.lt ?_
        intro v2 wa35 hv hg hb
        refine hK _ _ (Same.grown hg (by have := QB.out.size; have := HBB.out; omega) (fun e => by have := (V30.out.lt _ e).1; have h9 := HBB.out; omega)) ?_
        clear hK K
        try simp only [Act.put, List.setIfInBounds_toArray, List.set_cons_zero, List.set_cons_succ]
        have V1 := hid (V1.out.grown hg (Or.inr NE1.out))
        have OR := hid (OR.out.grown hg (fun e => by have := (V30.out.lt _ e).1; omega)); have OP := hid (OP.out.grown hg (fun e => by have := (V30.out.lt _ e).1; omega)); have QB := hid (QB.out.of_grown hg (fun k hk => .inr (by have := (V30.out.lt k hk).1; omega)))
        have V2 : Hid (Own .u8 5 wa35 (w.heap.size + 2) v2 ((l.take tt).drop hh)) := hid (by simpa using hv)
        obtain ⟨A6, c6, ev6, _, _, _, _⟩ := V2.out.slice
        rw [HDL2.out] at ev6
        subst ev6
        clear hv hg hb V30
        refine rgn.Walk.ys (v := ?_) rfl rfl rfl ?_ ?_
        rotate_left 1
        · intro W' hW'
          go_simp
          try with_reducible rfl
        try simp only [Act.put, List.setIfInBounds_toArray, List.set_cons_zero, List.set_cons_succ]
        refine rgn.Walk.es ?_
        refine rgn.stepE rfl rfl (fun K hK => ?_)
        refine opStoreOb rfl 26 _ _ rfl w.heap.size #[.int .i64 sv, .int .i64 v4, .bool wh, .bool mo, .int .i64 (b13 * 8), .int .i64 lf, .int .i64 pr, .int .u32 v12, .int .u32 v16, .slice A5 (hh - 20) c5, .slice A6 (tt - hh) c6] rfl rfl _ _ OR.out rfl (by kernel_rfl) (by simp [Value.oneCell']) (fun W9 hW9 => ?_)
        refine hK _ _ (((Only.refl [w.heap.size] _).eq_all hW9 (Or.inl (by simp))).block b (by have := QB.out.size; have := HBB.out; omega) (by simp; have := HBB.out; omega)) ?_
        clear hK K
        try simp only [Act.put, List.setIfInBounds_toArray, List.set_cons_zero, List.set_cons_succ]
        have OR5 := hid (OR.out.eq_all hW9 rfl); have QB5 := hid (QB.out.eq_all hW9 (Or.inr (by simp))); have QV5 : Hid (Only [w.heap.size] _ W9) := hid ((Only.refl _ _).eq_all hW9 (Or.inl (by simp))); clear hW9
        refine rgn.Walk.es ?_
        refine rgn.stepE rfl rfl (fun K hK => ?_)
        go_simp
        refine hK _ _ ((Same.refl b) _) ?_
        clear hK K
        try simp only [Act.put, List.setIfInBounds_toArray, List.set_cons_zero, List.set_cons_succ]
        refine rgn.Walk.zs (NoPanic.normal ?_)
        have HV5 := hid (V1.out.only QV5.out (fun i hi => by have h9 := (V1.out.lt i hi).1; simp; omega)); have HV6 := hid (V2.out.only QV5.out (fun i hi => by have h9 := (V2.out.lt i hi).1; simp; omega))
        have r0 := OR5.out.cell 0; have r1 := OR5.out.cell 1; have r2 := OR5.out.cell 2; have r3 := OR5.out.cell 3; have r4 := OR5.out.cell 4; have r5 := OR5.out.cell 5; have r6 := OR5.out.cell 6; have r7 := OR5.out.cell 7; have r8 := OR5.out.cell 8; have r9 := OR5.out.cell 9; have r10 := OR5.out.cell 10
        go_wp2
        exact bodyPost_ret (v := .tuple #[.agg #[.int .i64 sv, .int .i64 v4, .bool wh, .bool mo, .int .i64 (b13 * 8), .int .i64 lf, .int .i64 pr, .int .u32 v12, .int .u32 v16, .slice A5 (hh - 20) c5, .slice A6 (tt - hh) c6], .int .i64 0]) (by simp [results, Tryd.results19, go_sem, *]) rfl ⟨_, _, rfl, HV5.out.mono_base (by omega), HV6.out.mono_base (by omega), QB5.out⟩
    · refine rgn.stepE rfl rfl (fun K hK => ?_)
      go_simp
      refine hK _ _ (Same.alloc _ (by have := QB.out.size; have := HBB.out; omega)) ?_
      clear hK K
      try simp only [Act.put, List.setIfInBounds_toArray, List.set_cons_zero, List.set_cons_succ]
      have oA : Only [] wb25 (wb25.alloc (.cells #[] 5)) := (Only.refl [] _).alloc _
      have V30 : Hid (Own .u8 5 (wb25.alloc (.cells #[] 5)) (w.heap.size + 2) (.slice (some ⟨wb25.heap.size, 0, none⟩) 0 0) []) := hid (Own.lit .u8 5 _ (w.heap.size + 2) [] #[] 0 rfl rfl OP.out.lt (by simp) (by simp))
      obtain ⟨wb30, hwb30⟩ : ∃ X, X = (wb25.alloc (.cells #[] 5)) := ⟨_, rfl⟩
      obtain ⟨g30, hg30⟩ : ∃ X, X = wb25.heap.size := ⟨_, rfl⟩
      rw [← hwb30, ← hg30]
      rw [← hwb30, ← hg30] at V30
      rw [← hwb30] at oA
      have NE : Hid (g25 ≠ g30) := hid (by have := (V25.out.lt g25 rfl).2; omega)
      have OR := hid (OR.out.only oA (by simp)); have OP := hid (OP.out.only oA (by simp)); have QB := hid (QB.out.trans oA); have V25 := hid (V25.out.only_nil oA); clear oA hwb30 hg30
      refine rgn.Walk.es ?_
      refine rgn.stepE rfl rfl (fun K hK => ?_)
      go_simp
      refine (callsOnly (ref.get21 _ (some ⟨b, off, none⟩) n c l (HL.out.only_nil QB.out) 4 (by omega) (by omega))).mono ?_
      rw [P4.out]
      rintro x1 wg5 ⟨rfl, og⟩
      refine hK _ _ (Same.only og (by have := QB.out.size; have := HBB.out; omega)) ?_
      clear hK K
      try simp only [Act.put, List.setIfInBounds_toArray, List.set_cons_zero, List.set_cons_succ]
      have OR := hid (OR.out.only og (by simp)); have OP := hid (OP.out.only og (by simp)); have QB := hid (QB.out.trans og); have V25 := hid (V25.out.only_nil og); have V30 := hid (V30.out.only_nil og); clear og
      refine rgn.Walk.es ?_
      refine rgn.stepE rfl rfl (fun K hK => ?_)
      go_simp
      refine (callsOnly (ref.get41 _ (some ⟨b, off, none⟩) n c l (HL.out.only_nil QB.out) 12 (by omega) (by omega))).mono ?_
      rw [P12.out]
      rintro x1 wg22 ⟨rfl, og⟩
      refine hK _ _ (Same.only og (by have := QB.out.size; have := HBB.out; omega)) ?_
      clear hK K
      try simp only [Act.put, List.setIfInBounds_toArray, List.set_cons_zero, List.set_cons_succ]
      have OR := hid (OR.out.only og (by simp)); have OP := hid (OP.out.only og (by simp)); have QB := hid (QB.out.trans og); have V25 := hid (V25.out.only_nil og); have V30 := hid (V30.out.only_nil og); clear og
      refine rgn.Walk.es ?_
      refine rgn.stepE rfl rfl (fun K hK => ?_)
      go_simp
      refine (callsOnly (ref.get41 _ (some ⟨b, off, none⟩) n c l (HL.out.only_nil QB.out) 16 (by omega) (by omega))).mono ?_
      rw [P16.out]
      rintro x1 wg24 ⟨rfl, og⟩
      refine hK _ _ (Same.only og (by have := QB.out.size; have := HBB.out; omega)) ?_
      clear hK K
      try simp only [Act.put, List.setIfInBounds_toArray, List.set_cons_zero, List.set_cons_succ]
      have OR := hid (OR.out.only og (by simp)); have OP := hid (OP.out.only og (by simp)); have QB := hid (QB.out.trans og); have V25 := hid (V25.out.only_nil og); have V30 := hid (V30.out.only_nil og); clear og
      refine rgn.Walk.es ?_
      refine rgn.stepE rfl rfl (fun K hK => ?_)
      refine opApp rfl (.tmp 101) (.tmp 104) _ rfl hlp.elemB (w.heap.size + 2) _ [] rfl V25.out A3 (hh - 20) c3 ((l.take hh).drop 20) rfl (HR3.out.only_nil QB.out) HC3.out (by simp; omega) (by unfold maxLen; simp; omega) OP.out.lt ?_
      intro v1 wa29 hv hg hb
      refine hK _ _ (Same.grown hg (by have := QB.out.size; have := HBB.out; omega) (fun e => by have := (V25.out.lt _ e).1; have h9 := HBB.out; omega)) ?_
      clear hK K
      try simp only [Act.put, List.setIfInBounds_toArray, List.set_cons_zero, List.set_cons_succ]
      have NE1 : Hid (v1.ownBlock ≠ some g30) := hid (ne_blk (g := g25) hb NE.out (V30.out.lt g30 rfl).2)
      have V30 := hid (V30.out.grown hg (Or.inr (fun e => NE.out (Option.some.inj (show some g30 = some g25 from e)).symm)))
      have OR := hid (OR.out.grown hg (fun e => by have := (V25.out.lt _ e).1; omega)); have OP := hid (OP.out.grown hg (fun e => by have := (V25.out.lt _ e).1; omega)); have QB := hid (QB.out.of_grown hg (fun k hk => .inr (by have := (V25.out.lt k hk).1; omega)))
      have V1 : Hid (Own .u8 5 wa29 (w.heap.size + 2) v1 ((l.take hh).drop 20)) := hid (by simpa using hv)
      obtain ⟨A5, c5, ev5, _, _, _, _⟩ := V1.out.slice
      rw [HOL2.out] at ev5
      subst ev5
      clear hv hg hb V25
      refine rgn.Walk.es ?_
      refine rgn.stepE rfl rfl (fun K hK => ?_)
      refine opApp rfl (.tmp 106) (.tmp 110) _ rfl hlp.elemB (w.heap.size + 2) _ [] rfl V30.out A4 (tt - hh) c4 ((l.take tt).drop hh) rfl (HR4.out.only_nil QB.out) HC4.out (by simp; omega) (by unfold maxLen; simp; omega) OP.out.lt ?_
      intro v2 wa35 hv hg hb
      refine hK _ _ (Same.grown hg (by have := QB.out.size; have := HBB.out; omega) (fun e => by have := (V30.out.lt _ e).1; have h9 := HBB.out; omega)) ?_
      clear hK K
      try simp only [Act.put, List.setIfInBounds_toArray, List.set_cons_zero, List.set_cons_succ]
      have V1 := hid (V1.out.grown hg (Or.inr NE1.out))
      have OR := hid (OR.out.grown hg (fun e => by have := (V30.out.lt _ e).1; omega)); have OP := hid (OP.out.grown hg (fun e => by have := (V30.out.lt _ e).1; omega)); have QB := hid (QB.out.of_grown hg (fun k hk => .inr (by have := (V30.out.lt k hk).1; omega)))
      have V2 : Hid (Own .u8 5 wa35 (w.heap.size + 2) v2 ((l.take tt).drop hh)) := hid (by simpa using hv)
      obtain ⟨A6, c6, ev6, _, _, _, _⟩ := V2.out.slice
      rw [HDL2.out] at ev6
      subst ev6
      clear hv hg hb V30
      refine rgn.Walk.ys (v := ?_) rfl rfl rfl ?_ ?_
      rotate_left 1
      · intro W' hW'
        go_simp
        try with_reducible rfl
      try simp only [Act.put, List.setIfInBounds_toArray, List.set_cons_zero, List.set_cons_succ]
      refine rgn.Walk.es ?_
      refine rgn.stepE rfl rfl (fun K hK => ?_)
      refine opStoreOb rfl 26 _ _ rfl w.heap.size #[.int .i64 sv, .int .i64 v4, .bool wh, .bool mo, .int .i64 (b13 * 8), .int .i64 lf, .int .i64 pr, .int .u32 v12, .int .u32 v16, .slice A5 (hh - 20) c5, .slice A6 (tt - hh) c6] rfl rfl _ _ OR.out rfl (by kernel_rfl) (by simp [Value.oneCell']) (fun W9 hW9 => ?_)
      refine hK _ _ (((Only.refl [w.heap.size] _).eq_all hW9 (Or.inl (by simp))).block b (by have := QB.out.size; have := HBB.out; omega) (by simp; have := HBB.out; omega)) ?_
      clear hK K
      try simp only [Act.put, List.setIfInBounds_toArray, List.set_cons_zero, List.set_cons_succ]
      have OR5 := hid (OR.out.eq_all hW9 rfl); have QB5 := hid (QB.out.eq_all hW9 (Or.inr (by simp))); have QV5 : Hid (Only [w.heap.size] _ W9) := hid ((Only.refl _ _).eq_all hW9 (Or.inl (by simp))); clear hW9
      refine rgn.Walk.es ?_
      refine rgn.stepE rfl rfl (fun K hK => ?_)
      go_simp
      refine hK _ _ ((Same.refl b) _) ?_
      clear hK K
      try simp only [Act.put, List.setIfInBounds_toArray, List.set_cons_zero, List.set_cons_succ]
      refine rgn.Walk.zs (NoPanic.normal ?_)
      have HV5 := hid (V1.out.only QV5.out (fun i hi => by have h9 := (V1.out.lt i hi).1; simp; omega)); have HV6 := hid (V2.out.only QV5.out (fun i hi => by have h9 := (V2.out.lt i hi).1; simp; omega))
      have r0 := OR5.out.cell 0; have r1 := OR5.out.cell 1; have r2 := OR5.out.cell 2; have r3 := OR5.out.cell 3; have r4 := OR5.out.cell 4; have r5 := OR5.out.cell 5; have r6 := OR5.out.cell 6; have r7 := OR5.out.cell 7; have r8 := OR5.out.cell 8; have r9 := OR5.out.cell 9; have r10 := OR5.out.cell 10
      go_wp2
      exact bodyPost_ret (v := .tuple #[.agg #[.int .i64 sv, .int .i64 v4, .bool wh, .bool mo, .int .i64 (b13 * 8), .int .i64 lf, .int .i64 pr, .int .u32 v12, .int .u32 v16, .slice A5 (hh - 20) c5, .slice A6 (tt - hh) c6], .int .i64 0]) (by simp [results, Tryd.results19, go_sem, *]) rfl ⟨_, _, rfl, HV5.out.mono_base (by omega), HV6.out.mono_base (by omega), QB5.out⟩
  · refine rgn.stepE rfl rfl (fun K hK => ?_)
    go_simp
    refine hK _ _ (Same.alloc _ (by have := QB.out.size; have := HBB.out; omega)) ?_
    clear hK K
    try simp only [Act.put, List.setIfInBounds_toArray, List.set_cons_zero, List.set_cons_succ]
    have oA : Only [] W (W.alloc (.cells #[] 5)) := (Only.refl [] _).alloc _
    have V30 : Hid (Own .u8 5 (W.alloc (.cells #[] 5)) (w.heap.size + 2) (.slice (some ⟨W.heap.size, 0, none⟩) 0 0) []) := hid (Own.lit .u8 5 _ (w.heap.size + 2) [] #[] 0 rfl rfl OP.out.lt (by simp) (by simp))
    obtain ⟨wb30, hwb30⟩ : ∃ X, X = (W.alloc (.cells #[] 5)) := ⟨_, rfl⟩
    obtain ⟨g30, hg30⟩ : ∃ X, X = W.heap.size := ⟨_, rfl⟩
    rw [← hwb30, ← hg30]
    rw [← hwb30, ← hg30] at V30
    rw [← hwb30] at oA
    have OR := hid (OR.out.only oA (by simp)); have OP := hid (OP.out.only oA (by simp)); have QB := hid (QB.out.trans oA); clear oA hwb30 hg30
    refine rgn.Walk.bs ?_ ?_
    · refine rgn.stepE rfl rfl (fun K hK => ?_)
      go_simp
      refine (callsOnly (ref.get21 _ (some ⟨b, off, none⟩) n c l (HL.out.only_nil QB.out) 4 (by omega) (by omega))).mono ?_
      rw [P4.out]
      rintro x1 wg5 ⟨rfl, og⟩
      refine hK _ _ (Same.only og (by have := QB.out.size; have := HBB.out; omega)) ?_
      clear hK K
      try simp only [Act.put, List.setIfInBounds_toArray, List.set_cons_zero, List.set_cons_succ]
      have OR := hid (OR.out.only og (by simp)); have OP := hid (OP.out.only og (by simp)); have QB := hid (QB.out.trans og); have V30 := hid (V30.out.only_nil og); clear og
      refine rgn.Walk.bs ?_ ?_
      · refine rgn.stepE rfl rfl (fun K hK => ?_)
        go_simp
        refine (callsOnly (ref.get41 _ (some ⟨b, off, none⟩) n c l (HL.out.only_nil QB.out) 12 (by omega) (by omega))).mono ?_
        rw [P12.out]
        rintro x1 wg22 ⟨rfl, og⟩
        refine hK _ _ (Same.only og (by have := QB.out.size; have := HBB.out; omega)) ?_
        clear hK K
        try simp only [Act.put, List.setIfInBounds_toArray, List.set_cons_zero, List.set_cons_succ]
        have OR := hid (OR.out.only og (by simp)); have OP := hid (OP.out.only og (by simp)); have QB := hid (QB.out.trans og); have V30 := hid (V30.out.only_nil og); clear og
        refine rgn.Walk.bs ?_ ?_
        · refine rgn.stepE rfl rfl (fun K hK => ?_)
          go_simp
          refine (callsOnly (ref.get41 _ (some ⟨b, off, none⟩) n c l (HL.out.only_nil QB.out) 16 (by omega) (by omega))).mono ?_
          rw [P16.out]
          rintro x1 wg24 ⟨rfl, og⟩
          refine hK _ _ (Same.only og (by have := QB.out.size; have := HBB.out; omega)) ?_
          clear hK K
          try simp only [Act.put, List.setIfInBounds_toArray, List.set_cons_zero, List.set_cons_succ]
          have OR := hid (OR.out.only og (by simp)); have OP := hid (OP.out.only og (by simp)); have QB := hid (QB.out.trans og); have V30 := hid (V30.out.only_nil og); clear og
          refine rgn.Walk.es ?_
          refine rgn.stepE rfl rfl (fun K hK => ?_)
          go_simp
          refine hK _ _ (Same.alloc _ (by have := QB.out.size; have := HBB.out; omega)) ?_
          clear hK K
          try simp only [Act.put, List.setIfInBounds_toArray, List.set_cons_zero, List.set_cons_succ]
          have oA : Only [] wg24 (wg24.alloc (.cells #[] 5)) := (Only.refl [] _).alloc _
          have V25 : Hid (Own .u8 5 (wg24.alloc (.cells #[] 5)) (w.heap.size + 2) (.slice (some ⟨wg24.heap.size, 0, none⟩) 0 0) []) := hid (Own.lit .u8 5 _ (w.heap.size + 2) [] #[] 0 rfl rfl OP.out.lt (by simp) (by simp))
          obtain ⟨wb25, hwb25⟩ : ∃ X, X = (wg24.alloc (.cells #[] 5)) := ⟨_, rfl⟩
          obtain ⟨g25, hg25⟩ : ∃ X, X = wg24.heap.size := ⟨_, rfl⟩
          rw [← hwb25, ← hg25]
          rw [← hwb25, ← hg25] at V25
          rw [← hwb25] at oA
          have NE : Hid (g25 ≠ g30) := hid (by have := (V30.out.lt g30 rfl).2; omega)
          have OR := hid (OR.out.only oA (by simp)); have OP := hid (OP.out.only oA (by simp)); have QB := hid (QB.out.trans oA); have V30 := hid (V30.out.only_nil oA); clear oA hwb25 hg25
          refine rgn.Walk.es ?_
          refine rgn.stepE rfl rfl (fun K hK => ?_)
          refine opApp rfl (.tmp 101) (.tmp 104) _ rfl hlp.elemB (w.heap.size + 2) _ [] rfl V25.out A3 (hh - 20) c3 ((l.take hh).drop 20) rfl (HR3.out.only_nil QB.out) HC3.out (by simp; omega) (by unfold maxLen; simp; omega) OP.out.lt ?_
          intro v1 wa29 hv hg hb
          refine hK _ _ (Same.grown hg (by have := QB.out.size; have := HBB.out; omega) (fun e => by have := (V25.out.lt _ e).1; have h9 := HBB.out; omega)) ?_
          clear hK K
          try simp only [Act.put, List.setIfInBounds_toArray, List.set_cons_zero, List.set_cons_succ]
          have NE1 : Hid (v1.ownBlock ≠ some g30) := hid (ne_blk (g := g25) hb NE.out (V30.out.lt g30 rfl).2)
          have V30 := hid (V30.out.grown hg (Or.inr (fun e => NE.out (Option.some.inj (show some g30 = some g25 from e)).symm)))
          have OR := hid (OR.out.grown hg (fun e => by have := (V25.out.lt _ e).1; omega)); have OP := hid (OP.out.grown hg (fun e => by have := (V25.out.lt _ e).1; omega)); have QB := hid (QB.out.of_grown hg (fun k hk => .inr (by have := (V25.out.lt k hk).1; omega)))
          have V1 : Hid (Own .u8 5 wa29 (w.heap.size + 2) v1 ((l.take hh).drop 20)) := hid (by simpa using hv)
          obtain ⟨A5, c5, ev5, _, _, _, _⟩ := V1.out.slice
          rw [HOL2.out] at ev5
          subst ev5
          clear hv hg hb V25
          refine rgn.Walk.es ?_
          refine rgn.stepE rfl rfl (fun K hK => ?_)
          refine opApp rfl (.tmp 106) (.tmp 110) _ rfl hlp.elemB (w.heap.size + 2) _ [] rfl V30.out A4 (tt - hh) c4 ((l.take tt).drop hh) rfl (HR4.out.only_nil QB.out) HC4.out (by simp; omega) (by unfold maxLen; simp; omega) OP.out.lt ?_
          intro v2 wa35 hv hg hb
          refine hK _ _ (Same.grown hg (by have := QB.out.size; have := HBB.out; omega) (fun e => by have := (V30.out.lt _ e).1; have h9 := HBB.out; omega)) ?_
          clear hK K
          try simp only [Act.put, List.setIfInBounds_toArray, List.set_cons_zero, List.set_cons_succ]
          have V1 := hid (V1.out.grown hg (Or.inr NE1.out))
          have OR := hid (OR.out.grown hg (fun e => by have := (V30.out.lt _ e).1; omega)); have OP := hid (OP.out.grown hg (fun e => by have := (V30.out.lt _ e).1; omega)); have QB := hid (QB.out.of_grown hg (fun k hk => .inr (by have := (V30.out.lt k hk).1; omega)))
          have V2 : Hid (Own .u8 5 wa35 (w.heap.size + 2) v2 ((l.take tt).drop hh)) := hid (by simpa using hv)
          obtain ⟨A6, c6, ev6, _, _, _, _⟩ := V2.out.slice
          rw [HDL2.out] at ev6
          subst ev6
          clear hv hg hb V30
          refine rgn.Walk.ys (v := ?_) rfl rfl rfl ?_ ?_
          rotate_left 1
          · intro W' hW'
            go_simp
            try with_reducible rfl
          try simp only [Act.put, List.setIfInBounds_toArray, List.set_cons_zero, List.set_cons_succ]
          refine rgn.Walk.es ?_
          refine rgn.stepE rfl rfl (fun K hK => ?_)
          refine opStoreOb rfl 26 _ _ rfl w.heap.size #[.int .i64 sv, .int .i64 v4, .bool wh, .bool mo, .int .i64 (b13 * 8), .int .i64 lf, .int .i64 pr, .int .u32 v12, .int .u32 v16, .slice A5 (hh - 20) c5, .slice A6 (tt - hh) c6] rfl rfl _ _ OR.out rfl (by kernel_rfl) (by simp [Value.oneCell']) (fun W9 hW9 => ?_)
          refine hK _ _ (((Only.refl [w.heap.size] _).eq_all hW9 (Or.inl (by simp))).block b (by have := QB.out.size; have := HBB.out; omega) (by simp; have := HBB.out; omega)) ?_
          clear hK K
          try simp only [Act.put, List.setIfInBounds_toArray, List.set_cons_zero, List.set_cons_succ]
          have OR5 := hid (OR.out.eq_all hW9 rfl); have QB5 := hid (QB.out.eq_all hW9 (Or.inr (by simp))); have QV5 : Hid (Only [w.heap.size] _ W9) := hid ((Only.refl _ _).eq_all hW9 (Or.inl (by simp))); clear hW9
          refine rgn.Walk.es ?_
          refine rgn.stepE rfl rfl (fun K hK => ?_)
          go_simp
          refine hK _ _ ((Same.refl b) _) ?_
          clear hK K
          try simp only [Act.put, List.setIfInBounds_toArray, List.set_cons_zero, List.set_cons_succ]
          refine rgn.Walk.zs (NoPanic.normal ?_)
          have HV5 := hid (V1.out.only QV5.out (fun i hi => by have h9 := (V1.out.lt i hi).1; simp; omega)); have HV6 := hid (V2.out.only QV5.out (fun i hi => by have h9 := (V2.out.lt i hi).1; simp; omega))
          have r0 := OR5.out.cell 0; have r1 := OR5.out.cell 1; have r2 := OR5.out.cell 2; have r3 := OR5.out.cell 3; have r4 := OR5.out.cell 4; have r5 := OR5.out.cell 5; have r6 := OR5.out.cell 6; have r7 := OR5.out.cell 7; have r8 := OR5.out.cell 8; have r9 := OR5.out.cell 9; have r10 := OR5.out.cell 10
          go_wp2
          exact bodyPost_ret (v := .tuple #[.agg #[.int .i64 sv, .int .i64 v4, .bool wh, .bool mo, .int .i64 (b13 * 8), .int .i64 lf, .int .i64 pr, .int .u32 v12, .int .u32 v16, .slice A5 (hh - 20) c5, .slice A6 (tt - hh) c6], .int .i64 0]) (by simp [results, Tryd.results19, go_sem, *]) rfl ⟨_, _, rfl, HV5.out.mono_base (by omega), HV6.out.mono_base (by omega), QB5.out⟩
        · refine rgn.stepE rfl rfl (fun K hK => ?_)
          go_simp
          refine hK _ _ (Same.alloc _ (by have := QB.out.size; have := HBB.out; omega)) ?_
          clear hK K
          try simp only [Act.put, List.setIfInBounds_toArray, List.set_cons_zero, List.set_cons_succ]
          have oA : Only [] wg22 (wg22.alloc (.cells #[] 5)) := (Only.refl [] _).alloc _
          have V25 : Hid (Own .u8 5 (wg22.alloc (.cells #[] 5)) (w.heap.size + 2) (.slice (some ⟨wg22.heap.size, 0, none⟩) 0 0) []) := hid (Own.lit .u8 5 _ (w.heap.size + 2) [] #[] 0 rfl rfl OP.out.lt (by simp) (by simp))
          obtain ⟨wb25, hwb25⟩ : ∃ X, X = (wg22.alloc (.cells #[] 5)) := ⟨_, rfl⟩
          obtain ⟨g25, hg25⟩ : ∃ X, X = wg22.heap.size := ⟨_, rfl⟩
          rw [← hwb25, ← hg25]
          rw [← hwb25, ← hg25] at V25
          rw [← hwb25] at oA
          have NE : Hid (g25 ≠ g30) := hid (by have := (V30.out.lt g30 rfl).2; omega)
          have OR := hid (OR.out.only oA (by simp)); have OP := hid (OP.out.only oA (by simp)); have QB := hid (QB.out.trans oA); have V30 := hid (V30.out.only_nil oA); clear oA hwb25 hg25
          refine rgn.Walk.es ?_
          refine rgn.stepE rfl rfl (fun K hK => ?_)
          go_simp
          refine (callsOnly (ref.get41 _ (some ⟨b, off, none⟩) n c l (HL.out.only_nil QB.out) 16 (by omega) (by omega))).mono ?_
          rw [P16.out]
          rintro x1 wg24 ⟨rfl, og⟩
          refine hK _ _ (Same.only og (by have := QB.out.size; have := HBB.out; omega)) ?_
          clear hK K
          try simp only [Act.put, List.setIfInBounds_toArray, List.set_cons_zero, List.set_cons_succ]
          have OR := hid (OR.out.only og (by simp)); have OP := hid (OP.out.only og (by simp)); have QB := hid (QB.out.trans og); have V25 := hid (V25.out.only_nil og); have V30 := hid (V30.out.only_nil og); clear og
          refine rgn.Walk.es ?_
          refine rgn.stepE rfl rfl (fun K hK => ?_)
          refine opApp rfl (.tmp 101) (.tmp 104) _ rfl hlp.elemB (w.heap.size + 2) _ [] rfl V25.out A3 (hh - 20) c3 ((l.take hh).drop 20) rfl (HR3.out.only_nil QB.out) HC3.out (by simp; omega) (by unfold maxLen; simp; omega) OP.out.lt ?_
          intro v1 wa29 hv hg hb
          refine hK _ _ (Same.grown hg (by have := QB.out.size; have := HBB.out; omega) (fun e => by have := (V25.out.lt _ e).1; have h9 := HBB.out; omega)) ?_
          clear hK K
          try simp only [Act.put, List.setIfInBounds_toArray, List.set_cons_zero, List.set_cons_succ]
          have NE1 : Hid (v1.ownBlock ≠ some g30) := hid (ne_blk (g := g25) hb NE.out (V30.out.lt g30 rfl).2)
          have V30 := hid (V30.out.grown hg (Or.inr (fun e => NE.out (Option.some.inj (show some g30 = some g25 from e)).symm)))
          have OR := hid (OR.out.grown hg (fun e => by have := (V25.out.lt _ e).1; omega)); have OP := hid (OP.out.grown hg (fun e => by have := (V25.out.lt _ e).1; omega)); have QB := hid (QB.out.of_grown hg (fun k hk => .inr (by have := (V25.out.lt k hk).1; omega)))
          have V1 : Hid (Own .u8 5 wa29 (w.heap.size + 2) v1 ((l.take hh).drop 20)) := hid (by simpa using hv)
          obtain ⟨A5, c5, ev5, _, _, _, _⟩ := V1.out.slice
          rw [HOL2.out] at ev5
          subst ev5
          clear hv hg hb V25
          refine rgn.Walk.es ?_
          refine rgn.stepE rfl rfl (fun K hK => ?_)
          refine opApp rfl (.tmp 106) (.tmp 110) _ rfl hlp.elemB (w.heap.size + 2) _ [] rfl V30.out A4 (tt - hh) c4 ((l.take tt).drop hh) rfl (HR4.out.only_nil QB.out) HC4.out (by simp; omega) (by unfold maxLen; simp; omega) OP.out.lt ?_
          intro v2 wa35 hv hg hb
          refine hK _ _ (Same.grown hg (by have := QB.out.size; have := HBB.out; omega) (fun e => by have := (V30.out.lt _ e).1; have h9 := HBB.out; omega)) ?_
          clear hK K
          try simp only [Act.put, List.setIfInBounds_toArray, List.set_cons_zero, List.set_cons_succ]
          have V1 := hid (V1.out.grown hg (Or.inr NE1.out))
          have OR := hid (OR.out.grown hg (fun e => by have := (V30.out.lt _ e).1; omega)); have OP := hid (OP.out.grown hg (fun e => by have := (V30.out.lt _ e).1; omega)); have QB := hid (QB.out.of_grown hg (fun k hk => .inr (by have := (V30.out.lt k hk).1; omega)))
          have V2 : Hid (Own .u8 5 wa35 (w.heap.size + 2) v2 ((l.take tt).drop hh)) := hid (by simpa using hv)
          obtain ⟨A6, c6, ev6, _, _, _, _⟩ := V2.out.slice
          rw [HDL2.out] at ev6
          subst ev6
          clear hv hg hb V30
          refine rgn.Walk.ys (v := ?_) rfl rfl rfl ?_ ?_
          rotate_left 1
          · intro W' hW'
            go_simp
            try with_reducible rfl
          try simp only [Act.put, List.setIfInBounds_toArray, List.set_cons_zero, List.set_cons_succ]
          refine rgn.Walk.es ?_
          refine rgn.stepE rfl rfl (fun K hK => ?_)
          refine opStoreOb rfl 26 _ _ rfl w.heap.size #[.int .i64 sv, .int .i64 v4, .bool wh, .bool mo, .int .i64 (b13 * 8), .int .i64 lf, .int .i64 pr, .int .u32 v12, .int .u32 v16, .slice A5 (hh - 20) c5, .slice A6 (tt - hh) c6] rfl rfl _ _ OR.out rfl (by kernel_rfl) (by simp [Value.oneCell']) (fun W9 hW9 => ?_)
          refine hK _ _ (((Only.refl [w.heap.size] _).eq_all hW9 (Or.inl (by simp))).block b (by have := QB.out.size; have := HBB.out; omega) (by simp; have := HBB.out; omega)) ?_
          clear hK K
          try simp only [Act.put, List.setIfInBounds_toArray, List.set_cons_zero, List.set_cons_succ]
          have OR5 := hid (OR.out.eq_all hW9 rfl); have QB5 := hid (QB.out.eq_all hW9 (Or.inr (by simp))); have QV5 : Hid (Only [w.heap.size] _ W9) := hid ((Only.refl _ _).eq_all hW9 (Or.inl (by simp))); clear hW9
          refine rgn.Walk.es ?_
          refine rgn.stepE rfl rfl (fun K hK => ?_)
          go_simp
          refine hK _ _ ((Same.refl b) _) ?_
          clear hK K
          try simp only [Act.put, List.setIfInBounds_toArray, List.set_cons_zero, List.set_cons_succ]
          refine rgn.Walk.zs (NoPanic.normal ?_)
          have HV5 := hid (V1.out.only QV5.out (fun i hi => by have h9 := (V1.out.lt i hi).1; simp; omega)); have HV6 := hid (V2.out.only QV5.out (fun i hi => by have h9 := (V2.out.lt i hi).1; simp; omega))
          have r0 := OR5.out.cell 0; have r1 := OR5.out.cell 1; have r2 := OR5.out.cell 2; have r3 := OR5.out.cell 3; have r4 := OR5.out.cell 4; have r5 := OR5.out.cell 5; have r6 := OR5.out.cell 6; have r7 := OR5.out.cell 7; have r8 := OR5.out.cell 8; have r9 := OR5.out.cell 9; have r10 := OR5.out.cell 10
          go_wp2
          exact bodyPost_ret (v := .tuple #[.agg #[.int .i64 sv, .int .i64 v4, .bool wh, .bool mo, .int .i64 (b13 * 8), .int .i64 lf, .int .i64 pr, .int .u32 v12, .int .u32 v16, .slice A5 (hh - 20) c5, .slice A6 (tt - hh) c6], .int .i64 0]) (by simp [results, Tryd.results19, go_sem, *]) rfl ⟨_, _, rfl, HV5.out.mono_base (by omega), HV6.out.mono_base (by omega), QB5.out⟩
      · refine rgn.stepE rfl rfl (fun K hK => ?_)
        go_simp
        refine hK _ _ (Same.alloc _ (by have := QB.out.size; have := HBB.out; omega)) ?_
        clear hK K
        try simp only [Act.put, List.setIfInBounds_toArray, List.set_cons_zero, List.set_cons_succ]
        have oA : Only [] wg5 (wg5.alloc (.cells #[] 5)) := (Only.refl [] _).alloc _
        have V25 : Hid (Own .u8 5 (wg5.alloc (.cells #[] 5)) (w.heap.size + 2) (.slice (some ⟨wg5.heap.size, 0, none⟩) 0 0) []) := hid (Own.lit .u8 5 _ (w.heap.size + 2) [] #[] 0 rfl rfl OP.out.lt (by simp) (by simp))
        obtain ⟨wb25, hwb25⟩ : ∃ X, X = (wg5.alloc (.cells #[] 5)) := ⟨_, rfl⟩
        obtain ⟨g25, hg25⟩ : ∃ X, X = wg5.heap.size := ⟨_, rfl⟩
        rw [← hwb25, ← hg25]
        rw [← hwb25, ← hg25] at V25
        rw [← hwb25] at oA
        have NE : Hid (g25 ≠ g30) := hid (by have := (V30.out.lt g30 rfl).2; omega)
        have OR := hid (OR.out.only oA (by simp)); have OP := hid (OP.out.only oA (by simp)); have QB := hid (QB.out.trans oA); have V30 := hid (V30.out.only_nil oA); clear oA hwb25 hg25
        refine rgn.Walk.es ?_
        refine rgn.stepE rfl rfl (fun K hK => ?_)
        go_simp
        refine (callsOnly (ref.get41 _ (some ⟨b, off, none⟩) n c l (HL.out.only_nil QB.out) 12 (by omega) (by omega))).mono ?_
        rw [P12.out]
        rintro x1 wg22 ⟨rfl, og⟩
        refine hK _ _ (Same.only og (by have := QB.out.size; have := HBB.out; omega)) ?_
        clear hK K
        try simp only [Act.put, List.setIfInBounds_toArray, List.set_cons_zero, List.set_cons_succ]
        have OR := hid (OR.out.only og (by simp)); have OP := hid (OP.out.only og (by simp)); have QB := hid (QB.out.trans og); have V25 := hid (V25.out.only_nil og); have V30 := hid (V30.out.only_nil og); clear og
        refine rgn.Walk.es ?_
        refine rgn.stepE rfl rfl (fun K hK => ?_)
        go_simp
        refine (callsOnly (ref.get41 _ (some ⟨b, off, none⟩) n c l (HL.out.only_nil QB.out) 16 (by omega) (by omega))).mono ?_
        rw [P16.out]
        rintro x1 wg24 ⟨rfl, og⟩
        refine hK _ _ (Same.only og (by have := QB.out.size; have := HBB.out; omega)) ?_
        clear hK K
        try simp only [Act.put, List.setIfInBounds_toArray, List.set_cons_zero, List.set_cons_succ]
        have OR := hid (OR.out.only og (by simp)); have OP := hid (OP.out.only og (by simp)); have QB := hid (QB.out.trans og); have V25 := hid (V25.out.only_nil og); have V30 := hid (V30.out.only_nil og); clear og
        refine rgn.Walk.es ?_
        refine rgn.stepE rfl rfl (fun K hK => ?_)
        refine opApp rfl (.tmp 101) (.tmp 104) _ rfl hlp.elemB (w.heap.size + 2) _ [] rfl V25.out A3 (hh - 20) c3 ((l.take hh).drop 20) rfl (HR3.out.only_nil QB.out) HC3.out (by simp; omega) (by unfold maxLen; simp; omega) OP.out.lt ?_
        intro v1 wa29 hv hg hb
        refine hK _ _ (Same.grown hg (by have := QB.out.size; have := HBB.out; omega) (fun e => by have := (V25.out.lt _ e).1; have h9 := HBB.out; omega)) ?_
        clear hK K
        try simp only [Act.put, List.setIfInBounds_toArray, List.set_cons_zero, List.set_cons_succ]
        have NE1 : Hid (v1.ownBlock ≠ some g30) := hid (ne_blk (g := g25) hb NE.out (V30.out.lt g30 rfl).2)
        have V30 := hid (V30.out.grown hg (Or.inr (fun e => NE.out (Option.some.inj (show some g30 = some g25 from e)).symm)))
        have OR := hid (OR.out.grown hg (fun e => by have := (V25.out.lt _ e).1; omega)); have OP := hid (OP.out.grown hg (fun e => by have := (V25.out.lt _ e).1; omega)); have QB := hid (QB.out.of_grown hg (fun k hk => .inr (by have := (V25.out.lt k hk).1; omega)))
        have V1 : Hid (Own .u8 5 wa29 (w.heap.size + 2) v1 ((l.take hh).drop 20)) := hid (by simpa using hv)
        obtain ⟨A5, c5, ev5, _, _, _, _⟩ := V1.out.slice
        rw [HOL2.out] at ev5
        subst ev5
        clear hv hg hb V25
        refine rgn.Walk.es ?_
        refine rgn.stepE rfl rfl (fun K hK => ?_)
        refine opApp rfl (.tmp 106) (.tmp 110) _ rfl hlp.elemB (w.heap.size + 2) _ [] rfl V30.out A4 (tt - hh) c4 ((l.take tt).drop hh) rfl (HR4.out.only_nil QB.out) HC4.out (by simp; omega) (by unfold maxLen; simp; omega) OP.out.lt ?_
        intro v2 wa35 hv hg hb
        refine hK _ _ (Same.grown hg (by have := QB.out.size; have := HBB.out; omega) (fun e => by have := (V30.out.lt _ e).1; have h9 := HBB.out; omega)) ?_
        clear hK K
        try simp only [Act.put, List.setIfInBounds_toArray, List.set_cons_zero, List.set_cons_succ]
        have V1 := hid (V1.out.grown hg (Or.inr NE1.out))
        have OR := hid (OR.out.grown hg (fun e => by have := (V30.out.lt _ e).1; omega)); have OP := hid (OP.out.grown hg (fun e => by have := (V30.out.lt _ e).1; omega)); have QB := hid (QB.out.of_grown hg (fun k hk => .inr (by have := (V30.out.lt k hk).1; omega)))
        have V2 : Hid (Own .u8 5 wa35 (w.heap.size + 2) v2 ((l.take tt).drop hh)) := hid (by simpa using hv)
        obtain ⟨A6, c6, ev6, _, _, _, _⟩ := V2.out.slice
        rw [HDL2.out] at ev6
        subst ev6
        clear hv hg hb V30
        refine rgn.Walk.ys (v := ?_) rfl rfl rfl ?_ ?_
        rotate_left 1
        · intro W' hW'
          go_simp
          try with_reducible rfl
        try simp only [Act.put, List.setIfInBounds_toArray, List.set_cons_zero, List.set_cons_succ]
        refine rgn.Walk.es ?_
        refine rgn.stepE rfl rfl (fun K hK => ?_)
        refine opStoreOb rfl 26 _ _ rfl w.heap.size #[.int .i64 sv, .int .i64 v4, .bool wh, .bool mo, .int .i64 (b13 * 8), .int .i64 lf, .int .i64 pr, .int .u32 v12, .int .u32 v16, .slice A5 (hh - 20) c5, .slice A6 (tt - hh) c6] rfl rfl _ _ OR.out rfl (by kernel_rfl) (by simp [Value.oneCell']) (fun W9 hW9 => ?_)
        refine hK _ _ (((Only.refl [w.heap.size] _).eq_all hW9 (Or.inl (by simp))).block b (by have := QB.out.size; have := HBB.out; omega) (by simp; have := HBB.out; omega)) ?_
        clear hK K
        try simp only [Act.put, List.setIfInBounds_toArray, List.set_cons_zero, List.set_cons_succ]
        have OR5 := hid (OR.out.eq_all hW9 rfl); have QB5 := hid (QB.out.eq_all hW9 (Or.inr (by simp))); have QV5 : Hid (Only [w.heap.size] _ W9) := hid ((Only.refl _ _).eq_all hW9 (Or.inl (by simp))); clear hW9
        refine rgn.Walk.es ?_
        refine rgn.stepE rfl rfl (fun K hK => ?_)
        go_simp
        refine hK _ _ ((Same.refl b) _) ?_
        clear hK K
        try simp only [Act.put, List.setIfInBounds_toArray, List.set_cons_zero, List.set_cons_succ]
        refine rgn.Walk.zs (NoPanic.normal ?_)
        have HV5 := hid (V1.out.only QV5.out (fun i hi => by have h9 := (V1.out.lt i hi).1; simp; omega)); have HV6 := hid (V2.out.only QV5.out (fun i hi => by have h9 := (V2.out.lt i hi).1; simp; omega))
        have r0 := OR5.out.cell 0; have r1 := OR5.out.cell 1; have r2 := OR5.out.cell 2; have r3 := OR5.out.cell 3; have r4 := OR5.out.cell 4; have r5 := OR5.out.cell 5; have r6 := OR5.out.cell 6; have r7 := OR5.out.cell 7; have r8 := OR5.out.cell 8; have r9 := OR5.out.cell 9; have r10 := OR5.out.cell 10
        go_wp2
        exact bodyPost_ret (v := .tuple #[.agg #[.int .i64 sv, .int .i64 v4, .bool wh, .bool mo, .int .i64 (b13 * 8), .int .i64 lf, .int .i64 pr, .int .u32 v12, .int .u32 v16, .slice A5 (hh - 20) c5, .slice A6 (tt - hh) c6], .int .i64 0]) (by simp [results, Tryd.results19, go_sem, *]) rfl ⟨_, _, rfl, HV5.out.mono_base (by omega), HV6.out.mono_base (by omega), QB5.out⟩
    · refine rgn.stepE rfl rfl (fun K hK => ?_)
      go_simp
      refine hK _ _ (Same.alloc _ (by have := QB.out.size; have := HBB.out; omega)) ?_
      clear hK K
      try simp only [Act.put, List.setIfInBounds_toArray, List.set_cons_zero, List.set_cons_succ]
      have oA : Only [] wb30 (wb30.alloc (.cells #[] 5)) := (Only.refl [] _).alloc _
      have V25 : Hid (Own .u8 5 (wb30.alloc (.cells #[] 5)) (w.heap.size + 2) (.slice (some ⟨wb30.heap.size, 0, none⟩) 0 0) []) := hid (Own.lit .u8 5 _ (w.heap.size + 2) [] #[] 0 rfl rfl OP.out.lt (by simp) (by simp))
      obtain ⟨wb25, hwb25⟩ : ∃ X, X = (wb30.alloc (.cells #[] 5)) := ⟨_, rfl⟩
      obtain ⟨g25, hg25⟩ : ∃ X, X = wb30.heap.size := ⟨_, rfl⟩
      rw [← hwb25, ← hg25]
      rw [← hwb25, ← hg25] at V25
      rw [← hwb25] at oA
      have NE : Hid (g25 ≠ g30) := hid (by have := (V30.out.lt g30 rfl).2; omega)
      have OR := hid (OR.out.only oA (by simp)); have OP := hid (OP.out.only oA (by simp)); have QB := hid (QB.out.trans oA); have V30 := hid (V30.out.only_nil oA); clear oA hwb25 hg25
      refine rgn.Walk.es ?_
      refine rgn.stepE rfl rfl (fun K hK => ?_)
      go_simp
      refine (callsOnly (ref.get21 _ (some ⟨b, off, none⟩) n c l (HL.out.only_nil QB.out) 4 (by omega) (by omega))).mono ?_
      rw [P4.out]
      rintro x1 wg5 ⟨rfl, og⟩
      refine hK _ _ (Same.only og (by have := QB.out.size; have := HBB.out; omega)) ?_
      clear hK K
      try simp only [Act.put, List.setIfInBounds_toArray, List.set_cons_zero, List.set_cons_succ]
      have OR := hid (OR.out.only og (by simp)); have OP := hid (OP.out.only og (by simp)); have QB := hid (QB.out.trans og); have V25 := hid (V25.out.only_nil og); have V30 := hid (V30.out.only_nil og); clear og
      refine rgn.Walk.es ?_
      refine rgn.stepE rfl rfl (fun K hK => ?_)
      go_simp
      refine (callsOnly (ref.get41 _ (some ⟨b, off, none⟩) n c l (HL.out.only_nil QB.out) 12 (by omega) (by omega))).mono ?_
      rw [P12.out]
      rintro x1 wg22 ⟨rfl, og⟩
      refine hK _ _ (Same.only og (by have := QB.out.size; have := HBB.out; omega)) ?_
      clear hK K
      try simp only [Act.put, List.setIfInBounds_toArray, List.set_cons_zero, List.set_cons_succ]
      have OR := hid (OR.out.only og (by simp)); have OP := hid (OP.out.only og (by simp)); have QB := hid (QB.out.trans og); have V25 := hid (V25.out.only_nil og); have V30 := hid (V30.out.only_nil og); clear og
      refine rgn.Walk.es ?_
      refine rgn.stepE rfl rfl (fun K hK => ?_)
      go_simp
      refine (callsOnly (ref.get41 _ (some ⟨b, off, none⟩) n c l (HL.out.only_nil QB.out) 16 (by omega) (by omega))).mono ?_
      rw [P16.out]
      rintro x1 wg24 ⟨rfl, og⟩
      refine hK _ _ (Same.only og (by have := QB.out.size; have := HBB.out; omega)) ?_
      clear hK K
      try simp only [Act.put, List.setIfInBounds_toArray, List.set_cons_zero, List.set_cons_succ]
      have OR := hid (OR.out.only og (by simp)); have OP := hid (OP.out.only og (by simp)); have QB := hid (QB.out.trans og); have V25 := hid (V25.out.only_nil og); have V30 := hid (V30.out.only_nil og); clear og
      refine rgn.Walk.es ?_
      refine rgn.stepE rfl rfl (fun K hK => ?_)
      refine opApp rfl (.tmp 101) (.tmp 104) _ rfl hlp.elemB (w.heap.size + 2) _ [] rfl V25.out A3 (hh - 20) c3 ((l.take hh).drop 20) rfl (HR3.out.only_nil QB.out) HC3.out (by simp; omega) (by unfold maxLen; simp; omega) OP.out.lt ?_
      intro v1 wa29 hv hg hb
      refine hK _ _ (Same.grown hg (by have := QB.out.size; have := HBB.out; omega) (fun e => by have := (V25.out.lt _ e).1; have h9 := HBB.out; omega)) ?_
      clear hK K
      try simp only [Act.put, List.setIfInBounds_toArray, List.set_cons_zero, List.set_cons_succ]
      have NE1 : Hid (v1.ownBlock ≠ some g30) := hid (ne_blk (g := g25) hb NE.out (V30.out.lt g30 rfl).2)
      have V30 := hid (V30.out.grown hg (Or.inr (fun e => NE.out (Option.some.inj (show some g30 = some g25 from e)).symm)))
      have OR := hid (OR.out.grown hg (fun e => by have := (V25.out.lt _ e).1; omega)); have OP := hid (OP.out.grown hg (fun e => by have := (V25.out.lt _ e).1; omega)); have QB := hid (QB.out.of_grown hg (fun k hk => .inr (by have := (V25.out.lt k hk).1; omega)))
      have V1 : Hid (Own .u8 5 wa29 (w.heap.size + 2) v1 ((l.take hh).drop 20)) := hid (by simpa using hv)
      obtain ⟨A5, c5, ev5, _, _, _, _⟩ := V1.out.slice
      rw [HOL2.out] at ev5
      subst ev5
      clear hv hg hb V25
      refine rgn.Walk.es ?_
      refine rgn.stepE rfl rfl (fun K hK => ?_)
      refine opApp rfl (.tmp 106) (.tmp 110) _ rfl hlp.elemB (w.heap.size + 2) _ [] rfl V30.out A4 (tt - hh) c4 ((l.take tt).drop hh) rfl (HR4.out.only_nil QB.out) HC4.out (by simp; omega) (by unfold maxLen; simp; omega) OP.out.lt ?_
      intro v2 wa35 hv hg hb
      refine hK _ _ (Same.grown hg (by have := QB.out.size; have := HBB.out; omega) (fun e => by have := (V30.out.lt _ e).1; have h9 := HBB.out; omega)) ?_
      clear hK K
      try simp only [Act.put, List.setIfInBounds_toArray, List.set_cons_zero, List.set_cons_succ]
      have V1 := hid (V1.out.grown hg (Or.inr NE1.out))
      have OR := hid (OR.out.grown hg (fun e => by have := (V30.out.lt _ e).1; omega)); have OP := hid (OP.out.grown hg (fun e => by have := (V30.out.lt _ e).1; omega)); have QB := hid (QB.out.of_grown hg (fun k hk => .inr (by have := (V30.out.lt k hk).1; omega)))
      have V2 : Hid (Own .u8 5 wa35 (w.heap.size + 2) v2 ((l.take tt).drop hh)) := hid (by simpa using hv)
      obtain ⟨A6, c6, ev6, _, _, _, _⟩ := V2.out.slice
      rw [HDL2.out] at ev6
      subst ev6
      clear hv hg hb V30
      refine rgn.Walk.ys (v := ?_) rfl rfl rfl ?_ ?_
      rotate_left 1
      · intro W' hW'
        go_simp
        try with_reducible rfl
      try simp only [Act.put, List.setIfInBounds_toArray, List.set_cons_zero, List.set_cons_succ]
      refine rgn.Walk.es ?_
      refine rgn.stepE rfl rfl (fun K hK => ?_)
      refine opStoreOb rfl 26 _ _ rfl w.heap.size #[.int .i64 sv, .int .i64 v4, .bool wh, .bool mo, .int .i64 (b13 * 8), .int .i64 lf, .int .i64 pr, .int .u32 v12, .int .u32 v16, .slice A5 (hh - 20) c5, .slice A6 (tt - hh) c6] rfl rfl _ _ OR.out rfl (by kernel_rfl) (by simp [Value.oneCell']) (fun W9 hW9 => ?_)
      refine hK _ _ (((Only.refl [w.heap.size] _).eq_all hW9 (Or.inl (by simp))).block b (by have := QB.out.size; have := HBB.out; omega) (by simp; have := HBB.out; omega)) ?_
      clear hK K
      try simp only [Act.put, List.setIfInBounds_toArray, List.set_cons_zero, List.set_cons_succ]
      have OR5 := hid (OR.out.eq_all hW9 rfl); have QB5 := hid (QB.out.eq_all hW9 (Or.inr (by simp))); have QV5 : Hid (Only [w.heap.size] _ W9) := hid ((Only.refl _ _).eq_all hW9 (Or.inl (by simp))); clear hW9
      refine rgn.Walk.es ?_
      refine rgn.stepE rfl rfl (fun K hK => ?_)
      go_simp
      refine hK _ _ ((Same.refl b) _) ?_
      clear hK K
      try simp only [Act.put, List.setIfInBounds_toArray, List.set_cons_zero, List.set_cons_succ]
      refine rgn.Walk.zs (NoPanic.normal ?_)
      have HV5 := hid (V1.out.only QV5.out (fun i hi => by have h9 := (V1.out.lt i hi).1; simp; omega)); have HV6 := hid (V2.out.only QV5.out (fun i hi => by have h9 := (V2.out.lt i hi).1; simp; omega))
      have r0 := OR5.out.cell 0; have r1 := OR5.out.cell 1; have r2 := OR5.out.cell 2; have r3 := OR5.out.cell 3; have r4 := OR5.out.cell 4; have r5 := OR5.out.cell 5; have r6 := OR5.out.cell 6; have r7 := OR5.out.cell 7; have r8 := OR5.out.cell 8; have r9 := OR5.out.cell 9; have r10 := OR5.out.cell 10
      go_wp2
      exact bodyPost_ret (v := .tuple #[.agg #[.int .i64 sv, .int .i64 v4, .bool wh, .bool mo, .int .i64 (b13 * 8), .int .i64 lf, .int .i64 pr, .int .u32 v12, .int .u32 v16, .slice A5 (hh - 20) c5, .slice A6 (tt - hh) c6], .int .i64 0]) (by simp [results, Tryd.results19, go_sem, *]) rfl ⟨_, _, rfl, HV5.out.mono_base (by omega), HV6.out.mono_base (by omega), QB5.out⟩
end Go.Proofs.YtaoeflngdlgboaaDoor.ip
