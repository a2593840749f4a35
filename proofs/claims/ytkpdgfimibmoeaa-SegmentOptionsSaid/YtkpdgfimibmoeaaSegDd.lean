/-
  Chapter 14 (segment): a sum is written into a row, whatever it is, by a walk of its text. Conditions: none but those typed.
-/
import Derived.Test.YtkpdgfimibmoeaaSegDc
namespace Go.Proofs.Ytkpdgfimibmoeaa.seg
set_option linter.unusedVariables false
set_option linter.unusedSimpArgs false
open Go.ChangeShapes Go.WideShapes Go.ChangeAt Go.RowKit Go.IntWalk Go.Lib
set_option maxRecDepth 100000 in
set_option maxHeartbeats 8000000 in
/-- fix turns two bytes of its row, and nothing else. -/
theorem fix1 (w : World) (fr to sq ac : Int) (fp tp fl wi ms sc : Int) (A : Option Addr) (n c : Nat) (base g m cap : Nat) (l : List Int) (hf : 0 ≤ fr ∧ fr ≤ 4294967295) (ht : 0 ≤ to ∧ to ≤ 4294967295) (hv : Own .u8 5 w base (.slice (some ⟨g, 0, none⟩) m cap) l) (h20 : 20 ≤ m) (hm : m ≤ 70000) :
    Calls Try.prog 20 #[.agg #[.int .u32 fr, .int .i64 fp, .int .u32 to, .int .i64 tp, .int .u32 sq, .int .u32 ac, .int .i64 fl, .int .i64 wi, .int .i64 ms, .int .i64 sc, .slice A n c], .slice (some ⟨g, 0, none⟩) m cap] w fun x w' => x = .returned (.tuple #[]) ∧ (∃ l', Own .u8 5 w' base (.slice (some ⟨g, 0, none⟩) m cap) l') ∧ Only [g] w w' := by
  have hgl := hv.base_le
  have hll := hv.len
  have OB : Hid (Ob (w.alloc (.cells #[.int .u32 fr, .int .i64 fp, .int .u32 to, .int .i64 tp, .int .u32 sq, .int .u32 ac, .int .i64 fl, .int .i64 wi, .int .i64 ms, .int .i64 sc, .slice A n c] 26)) w.heap.size 26 #[.int .u32 fr, .int .i64 fp, .int .u32 to, .int .i64 tp, .int .u32 sq, .int .u32 ac, .int .i64 fl, .int .i64 wi, .int .i64 ms, .int .i64 sc, .slice A n c]) := hid (Ob.new _ _ _)
  have QB : Hid (Only [] w (w.alloc (.cells #[.int .u32 fr, .int .i64 fp, .int .u32 to, .int .i64 tp, .int .u32 sq, .int .u32 ac, .int .i64 fl, .int .i64 wi, .int .i64 ms, .int .i64 sc, .slice A n c] 26))) := hid ((Only.refl [] w).alloc _)
  have V := hid (hv.only_nil QB.out)
  clear hv
  have hs1 : w.heap.size < (w.alloc (.cells #[.int .u32 fr, .int .i64 fp, .int .u32 to, .int .i64 tp, .int .u32 sq, .int .u32 ac, .int .i64 fl, .int .i64 wi, .int .i64 ms, .int .i64 sc, .slice A n c] 26)).heap.size := OB.out.lt
  generalize hW : (w.alloc (.cells #[.int .u32 fr, .int .i64 fp, .int .u32 to, .int .i64 tp, .int .u32 sq, .int .u32 ac, .int .i64 fl, .int .i64 wi, .int .i64 ms, .int .i64 sc, .slice A n c] 26)) = W1 at *
  have HW := hid hW; clear hW
  have VL : Hid (Own .u8 5 (W1.alloc (.cells #[.int .u8 (fr / 16777216), .int .u8 (fr / 65536 % 256), .int .u8 (fr / 256 % 256), .int .u8 (fr % 256), .int .u8 (to / 16777216), .int .u8 (to / 65536 % 256), .int .u8 (to / 256 % 256), .int .u8 (to % 256), .int .u8 (0), .int .u8 (6), .int .u8 (m / 256 % 256), .int .u8 (m % 256)] 5)) W1.heap.size (.slice (some ⟨W1.heap.size, 0, none⟩) 12 12) [fr / 16777216, fr / 65536 % 256, fr / 256 % 256, fr % 256, to / 16777216, to / 65536 % 256, to / 256 % 256, to % 256, 0, 6, m / 256 % 256, m % 256]) := hid (Own.lit .u8 5 W1 W1.heap.size [fr / 16777216, fr / 65536 % 256, fr / 256 % 256, fr % 256, to / 16777216, to / 65536 % 256, to / 256 % 256, to % 256, 0, 6, m / 256 % 256, m % 256] #[.int .u8 (fr / 16777216), .int .u8 (fr / 65536 % 256), .int .u8 (fr / 256 % 256), .int .u8 (fr % 256), .int .u8 (to / 16777216), .int .u8 (to / 65536 % 256), .int .u8 (to / 256 % 256), .int .u8 (to % 256), .int .u8 (0), .int .u8 (6), .int .u8 (m / 256 % 256), .int .u8 (m % 256)] 12 rfl rfl (Nat.le_refl _) (by simp [maxLen]) (by intro z hz; simp at hz; apply hlp.u8wf; omega))
  have B : Hid (Below W1.heap.size W1 (W1.alloc (.cells #[.int .u8 (fr / 16777216), .int .u8 (fr / 65536 % 256), .int .u8 (fr / 256 % 256), .int .u8 (fr % 256), .int .u8 (to / 16777216), .int .u8 (to / 65536 % 256), .int .u8 (to / 256 % 256), .int .u8 (to % 256), .int .u8 (0), .int .u8 (6), .int .u8 (m / 256 % 256), .int .u8 (m % 256)] 5))) := hid ((Below.refl _ _).alloc (Nat.le_refl _) _)
  have VE : Hid (Own .u8 5 ((W1.alloc (.cells #[.int .u8 (fr / 16777216), .int .u8 (fr / 65536 % 256), .int .u8 (fr / 256 % 256), .int .u8 (fr % 256), .int .u8 (to / 16777216), .int .u8 (to / 65536 % 256), .int .u8 (to / 256 % 256), .int .u8 (to % 256), .int .u8 (0), .int .u8 (6), .int .u8 (m / 256 % 256), .int .u8 (m % 256)] 5)).alloc (.cells #[] 5)) W1.heap.size (.slice (some ⟨W1.heap.size + 1, 0, none⟩) 0 0) []) := hid (by have h := Own.lit .u8 5 (W1.alloc (.cells #[.int .u8 (fr / 16777216), .int .u8 (fr / 65536 % 256), .int .u8 (fr / 256 % 256), .int .u8 (fr % 256), .int .u8 (to / 16777216), .int .u8 (to / 65536 % 256), .int .u8 (to / 256 % 256), .int .u8 (to % 256), .int .u8 (0), .int .u8 (6), .int .u8 (m / 256 % 256), .int .u8 (m % 256)] 5)) W1.heap.size [] #[] 0 rfl rfl (by simp) (by simp) (by simp); simpa using h)
  have B := hid (B.out.alloc (by simp) (.cells #[] 5)); have VL := hid (VL.out.alloc (.cells #[] 5))
  have k0 := OB.out.cell 0; have k2 := OB.out.cell 2
  go_enter Try.func20, Try.ntmps20
  go_wp2_with (at_builtin; rw [HW.out]; refine wpList_app _ rfl (.tmp 46) (.tmp 47) _ rfl hlp.elemB W1.heap.size (.slice (some ⟨W1.heap.size + 1, 0, none⟩) 0 0) [] (by rw [← HW.out]; simp [Act.eval]) ?ca (some ⟨W1.heap.size, 0, none⟩) 12 12 [fr / 16777216, fr / 65536 % 256, fr / 256 % 256, fr % 256, to / 16777216, to / 65536 % 256, to / 256 % 256, to % 256, 0, 6, m / 256 % 256, m % 256] (by rw [← HW.out]; simp [Act.eval]) ?cb ?cc ?cd ?ce ?cf ?_)
  case ca => exact VE.out
  case cb => exact VL.out.rd
  case cc => simp
  case cd => simp
  case ce => simp [maxLen]
  case cf => simp; omega
  intro v2 W2 hv hg hb
  have V2 : Hid (Own .u8 5 W2 W1.heap.size v2 [fr / 16777216, fr / 65536 % 256, fr / 256 % 256, fr % 256, to / 16777216, to / 65536 % 256, to / 256 % 256, to % 256, 0, 6, m / 256 % 256, m % 256]) := hid hv
  have B := hid (B.out.grown hg (by have := B.out.size; omega) (fun k hk => (VE.out.lt k hk).1))
  clear hv hg hb VL VE k0 k2
  have V := hid (V.out.below B.out (fun k hk => by
    have h9 : g = k := by simpa [Value.ownBlock] using hk
    omega))
  go_wp2_with (at_builtin; refine wpList_app _ rfl (.tmp 48) (.tmp 49) _ rfl hlp.elemB W1.heap.size v2 [fr / 16777216, fr / 65536 % 256, fr / 256 % 256, fr % 256, to / 16777216, to / 65536 % 256, to / 256 % 256, to % 256, 0, 6, m / 256 % 256, m % 256] rfl ?da (some ⟨g, 0, none⟩) m cap l rfl ?db ?dc ?dd ?de ?df ?_)
  case da => exact V2.out
  case db => exact V.out.rd
  case dc => simp
  case dd => simp; omega
  case de => unfold maxLen; simp; omega
  case df => have := B.out.size; omega
  intro v3 W3 hv hg hb
  have V3 : Hid (Own .u8 5 W3 W1.heap.size v3 ([fr / 16777216, fr / 65536 % 256, fr / 256 % 256, fr % 256, to / 16777216, to / 65536 % 256, to / 256 % 256, to % 256, 0, 6, m / 256 % 256, m % 256] ++ l)) := hid hv
  have o3 : Only [] W1 W3 := Only.of_below (B.out.grown hg (by have := B.out.size; omega) (fun k hk => (V2.out.lt k hk).1))
  have V := hid (V.out.grown hg (.inr (fun e => by have h9 := (V2.out.lt g (by rw [← e]; simp [Value.ownBlock])).1; omega)))
  have QB := hid (QB.out.trans o3)
  clear hv hg hb V2 B o3
  have hm12 : ([fr / 16777216, fr / 65536 % 256, fr / 256 % 256, fr % 256, to / 16777216, to / 65536 % 256, to / 256 % 256, to % 256, 0, 6, m / 256 % 256, m % 256] ++ l).length = 12 + m := by simp [hll.1]; omega
  obtain ⟨ga, capa, ev⟩ := V3.out.some_form (by rw [hm12]; omega)
  rw [hm12] at ev
  subst ev
  have HCE : Hid (∀ k, k < 12 + m → ∃ x : Int, (0 ≤ x ∧ x ≤ 255) ∧ W3.cell? ⟨ga, k, none⟩ = some (.int .u8 x)) := hid (fun k hk => ⟨_, u8Bd (V3.out.rd.getD_wf k hk), V3.out.cellD k hk⟩)
  have c16 := V.out.cellD 16 (by omega); have c17 := V.out.cellD 17 (by omega); have f16 := V.out.frozen 16; have f17 := V.out.frozen 17
  have hi16 : (16 : Int) < m := by omega
  have hi17 : (17 : Int) < m := by omega
  clear V3 hm12
  generalize l.getD 16 0 = y16 at *
  generalize l.getD 17 0 = y17 at *
  go_wp2
  go_loop [4, 7] (fun v i => ∃ (k : Nat) (S : Int), i = .int .i64 k ∧ v = .int .i64 S ∧ 0 ≤ S ∧ S ≤ 65535 ∧ k ≤ 13 + m) (fun _ i => 14 + m - (RowKit.intOf i).toNat)
  case atStart => exact ⟨0, 0, rfl, rfl, by omega, by omega, by omega⟩
  case round =>
    obtain ⟨k, S, rfl, rfl, hS0, hS1, hk⟩ := hrel
    by_cases hlt : k < 12 + m
    · obtain ⟨x, hx, q0⟩ := HCE.out k hlt
      have hlti : (k : Int) < 12 + m := by omega
      have hx256 : 0 ≤ x * 256 ∧ x * 256 ≤ 65280 := by omega
      by_cases h2 : k + 1 < 12 + m
      · obtain ⟨y, hy, q1⟩ := HCE.out (k + 1) h2
        have h2i : (k : Int) + 1 < 12 + m := by omega
        by_cases hbig : 65535 < S + x * 256 + y
        · go_wp2
          go_round
          case rel => exact ⟨k + 2, S + x * 256 + y - 65535, by go_num, by go_num, by omega, by omega, by omega⟩
          case measure => simp [RowKit.intOf]; omega
        · go_wp2
          go_round
          case rel => exact ⟨k + 2, S + x * 256 + y, by go_num, by go_num, by omega, by omega, by omega⟩
          case measure => simp [RowKit.intOf]; omega
      · have h2i : ¬ (k : Int) + 1 < 12 + m := by omega
        by_cases hbig : 65535 < S + x * 256
        · go_wp2
          go_round
          case rel => exact ⟨k + 2, S + x * 256 - 65535, by go_num, by go_num, by omega, by omega, by omega⟩
          case measure => simp [RowKit.intOf]; omega
        · go_wp2
          go_round
          case rel => exact ⟨k + 2, S + x * 256, by go_num, by go_num, by omega, by omega, by omega⟩
          case measure => simp [RowKit.intOf]; omega
    · have hlti : ¬ (k : Int) < 12 + m := by omega
      go_wp2
      refine bodyPost_end (results_none rfl _ _ _) rfl ?_
      refine ⟨rfl, ⟨_, (V.out.set 16 _ ?_).set 17 _ ?_⟩, ?_⟩
      · apply hlp.u8wf; omega
      · apply hlp.u8wf; omega
      · refine Only.setCell (Only.setCell ?_ (.inl (by simp)) _) (.inl (by simp)) _
        exact QB.out.more (by simp)
end Go.Proofs.Ytkpdgfimibmoeaa.seg
