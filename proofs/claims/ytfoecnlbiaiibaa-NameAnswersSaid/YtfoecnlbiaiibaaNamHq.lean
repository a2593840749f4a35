/-
  Chapter 21 (name): slices.Concat of two rows of records, whatever the address of an empty one is, by a walk of its text. Conditions: none but those typed.
-/
import Derived.Test.YtfoecnlbiaiibaaNamHp
import Derived.Lib.SliceRun
import Derived.Lib.Walk
namespace Go.Proofs.Ytfoecnlbiaiibaa.nam
set_option linter.unusedVariables false
set_option linter.unusedSimpArgs false
open Go.ChangeShapes Go.WideShapes Go.ChangeAt Go.RowKit Go.IntWalk Go.Lib
section
variable {P : Program} (w : World) {e : TypeId} {z : Value} {sz bytes : Nat}
theorem run_appS0 {t : TypeId} (E : ElemS P t e z sz bytes) (ty : TypeId) (base : Nat) (v : Value) (n : Nat) (xs : List Value) (hown : w.ownsRow base e sz v n xs) (A : Option Addr) (m c : Nat) (l : List Value) (hr : RdS w A m sz l) (hc0 : A = none → c = 0)
    (hb : (n + m) * bytes ≤ 140737488355328) (h63 : n + m ≤ maxLen) (hbase : base ≤ w.heap.size) :
    ∃ v' w', (Builtin.append_ #[t, t] ty #[v, .slice A m c]).run P w = .ok v' w' ∧ w'.ownsRow base e sz v' (n + m) (xs ++ l) ∧ w.grownBy w' v.ownBlock ∧ (v'.ownBlock = v.ownBlock ∨ v'.ownBlock = some w.heap.size) := by
  obtain ⟨i, hi, hz, hs, hby⟩ := info_parts E.info
  rcases A with _ | ad
  · have hm : m = 0 := by
      rcases Nat.eq_zero_or_pos m with h0 | h0
      · exact h0
      · obtain ⟨b, off, h, _⟩ := hr.cells h0; cases h
    subst hm
    have hl : l = [] := List.eq_nil_of_length_eq_zero (by simpa using hr.len)
    subst hl
    rw [hc0 rfl]
    exact ⟨v, w, run_append_owned_none w base t ty e i sz E.ht hi v _ _ hown, by simpa using hown, World.grownBy.refl w _, .inl rfl⟩
  · have hnews : ∀ j u, l[j]? = some u → w.cell? (ad.add j) = some u := by
      intro j u hu
      have hj : 0 < m := by
        rcases Nat.eq_zero_or_pos m with h | h
        · have := hr.len; rw [h, Nat.zero_mul] at this
          rw [List.eq_nil_of_length_eq_zero this] at hu; cases hu
        · exact h
      obtain ⟨b', off', h, _, hc⟩ := hr.cells hj
      injection h with h
      subst h
      rw [addr_plus]
      exact hc j u hu
    obtain ⟨v', w', h1, h2, h3, _, h5⟩ := run_append_own_at (P := P) w base t ty e i z sz bytes E.ht hi hz hs hby E.zsz E.pos v n xs hown ad m c l hr.len hnews hr.one h63 hb hbase
    exact ⟨v', w', h1, h2, h3, h5⟩
theorem wpList_appS0 {ops : Array Oper} {rest : List Oper} {o : Oper} {a : Act} {Q : Exit → Act → World → Prop} (hgd : o.guard = none) (s x : Operand) (t : TypeId)
    (ho : o.op = .call { callee := .builtin .append, args := #[s, x], argTypes := #[t, t] }) (E : ElemS P t e z sz bytes) (base : Nat) (v : Value) (n : Nat) (xs : List Value) (hs : a.eval s = v) (hown : w.ownsRow base e sz v n xs)
    (A : Option Addr) (m c : Nat) (l : List Value) (hx : a.eval x = .slice A m c) (hr : RdS w A m sz l) (hc0 : A = none → c = 0) (hb : (n + m) * bytes ≤ 140737488355328) (h63 : n + m ≤ maxLen) (hbase : base ≤ w.heap.size)
    (h : ∀ v' w', w'.ownsRow base e sz v' (n + m) (xs ++ l) → w.grownBy w' v.ownBlock → (v'.ownBlock = v.ownBlock ∨ v'.ownBlock = some w.heap.size) → wpList P ops Q rest (a.put o.dst v') w') : wpList P ops Q (o :: rest) a w := by
  refine wpList_plain hgd fun K hK => ?_
  obtain ⟨v', w', hr, h2, h3, h5⟩ := run_appS0 (P := P) w E o.type base v n xs hown A m c l hr hc0 hb h63 hbase
  unfold Oper.wp execOp
  simp only [ho, resolve, invoke, builtin, Sem.run_bind, Sem.run_pure, Result.andThen_ok, List.map_toArray, List.map_cons, List.map_nil, hs, hx, hr]
  exact hK _ _ (h v' w' h2 h3 h5)
end
set_option maxHeartbeats 4000000 in
set_option maxRecDepth 100000 in
theorem concat2 (w : World) (b : Nat) (A1 A2 : Option Addr) (n1 n2 d1 d2 : Nat) (x1 x2 : List Value) (k0 : w.cell? ⟨b, 0, none⟩ = some (.slice A1 n1 d1)) (k1 : w.cell? ⟨b, 1, none⟩ = some (.slice A2 n2 d2))
    (r1 : RdS w A1 n1 5 x1) (r2 : RdS w A2 n2 5 x2) (z1 : A1 = none → d1 = 0) (z2 : A2 = none → d2 = 0) (h1 : n1 ≤ 100000) (h2 : n2 ≤ 100000) :
    Calls Try.prog 46 #[.slice (some ⟨b, 0, none⟩) 2 2] w fun x w' => ∃ v, x = .returned v ∧ w'.ownsRow w.heap.size 46 5 v (n1 + n2) (x1 ++ x2) ∧ Only [] w w' := by
  have HR1 := hid r1; have HR2 := hid r2; have HZ1 := hid z1; have HZ2 := hid z2
  have HK0 := hid k0; have HK1 := hid k1
  clear r1 r2 z1 z2 k0 k1
  go_enter Try.func46, Try.ntmps46
  go_wp2_with fail
  go_loopw [3, 5, 11] (fun v3 v5 v11 wr => ∃ k z : Nat, v11 = .int .i64 k ∧ v3 = .int .i64 z ∧ Hid (wr = w) ∧ ((k = 0 ∧ z = 0) ∨ (k = 1 ∧ z = n1) ∨ (k = 2 ∧ z = n1 + n2))) (fun _ _ v11 _ => 2 - (RowKit.intOf v11).toNat)
  case atStart => exact ⟨0, 0, rfl, rfl, hid rfl, .inl ⟨rfl, rfl⟩⟩
  case round =>
    obtain ⟨k, z, rfl, rfl, HW, hkz⟩ := hrel
    obtain rfl := HW.out
    clear HW
    rcases hkz with ⟨rfl, rfl⟩ | ⟨rfl, rfl⟩ | ⟨rfl, rfl⟩
    · have q0 := HK0.out
      have hnn : ¬ (n1 : Int) < 0 := by omega
      go_wp2_with fail
      go_roundw
      case measure => decide
      case rel => exact ⟨1, n1, by first | rfl | go_num, by first | rfl | (simp; done) | go_num, hid (by first | rfl | trivial), .inr (.inl ⟨rfl, rfl⟩)⟩
    · have q0 := HK1.out
      have hnn : ¬ (z : Int) + (n2 : Int) < 0 := by omega
      go_wp2_with fail
      go_roundw
      case measure => decide
      case rel => exact ⟨2, z + n2, by first | rfl | go_num, by first | rfl | (simp; done) | go_num, hid (by first | rfl | trivial), .inr (.inr ⟨rfl, rfl⟩)⟩
    · obtain ⟨wz, hwz⟩ : ∃ wz, wz = wr := ⟨_, rfl⟩
      subst hwz
      go_wp2_with fail
      refine (grow1 wz (n1 + n2) (by omega)).mono ?_
      rintro x w2 ⟨v, rfl, hv, o2⟩
      have HV := hid hv; have Q2 := hid o2
      clear hv o2
      go_wp2_with fail
      go_loopw [6, 8, 27] (fun v6 v8 v27 wq => ∃ (k m : Nat) (v : Value) (xs : List Value), v = v6 ∧ v27 = .int .i64 k ∧ Hid (wq.ownsRow wz.heap.size 46 5 v m xs) ∧ Hid (Only [] wz wq) ∧ ((k = 0 ∧ m = 0 ∧ xs = []) ∨ (k = 1 ∧ m = n1 ∧ xs = x1) ∨ (k = 2 ∧ m = n1 + n2 ∧ xs = x1 ++ x2))) (fun _ _ v27 _ => 2 - (RowKit.intOf v27).toNat)
      case atStart => exact ⟨0, 0, v, [], rfl, rfl, HV, Q2, .inl ⟨rfl, rfl, rfl⟩⟩
      case round =>
        obtain ⟨k, m, v, xs, rfl, rfl, HV, HB, hkz⟩ := hrel
        rcases hkz with ⟨rfl, rfl, rfl⟩ | ⟨rfl, rfl, rfl⟩ | ⟨rfl, rfl, rfl⟩
        · have q0 := HB.out.keep HK0.out
          have RR := hid (HR1.out.only_nil HB.out)
          go_wp2_with (at_builtin; refine wpList_appS0 _ rfl (.tmp 31) (.tmp 32) _ rfl elemRec wz.heap.size v 0 [] rfl HV.out A1 n1 d1 x1 rfl RR.out HZ1.out (by omega) (by unfold maxLen; omega) HB.out.size ?_)
          intro v4 w4 hv4 hg4 _
          have B4 : Hid (Only [] wz w4) := hid (HB.out.of_grown hg4 (fun k hk => .inr (own_lt HV.out k hk).1))
          have V4 : Hid (w4.ownsRow wz.heap.size 46 5 v4 (n1) (x1)) := hid (by simpa using hv4)
          clear hv4 hg4 q0
          go_wp2_with fail
          go_roundw
          case measure => decide
          case rel => exact ⟨1, n1, v4, x1, rfl, by first | rfl | go_num, V4, B4, .inr (.inl ⟨rfl, rfl, rfl⟩)⟩
        · have q0 := HB.out.keep HK1.out
          have RR := hid (HR2.out.only_nil HB.out)
          go_wp2_with (at_builtin; refine wpList_appS0 _ rfl (.tmp 31) (.tmp 32) _ rfl elemRec wz.heap.size v m xs rfl HV.out A2 n2 d2 x2 rfl RR.out HZ2.out (by omega) (by unfold maxLen; omega) HB.out.size ?_)
          intro v4 w4 hv4 hg4 _
          have B4 : Hid (Only [] wz w4) := hid (HB.out.of_grown hg4 (fun k hk => .inr (own_lt HV.out k hk).1))
          have V4 : Hid (w4.ownsRow wz.heap.size 46 5 v4 (m + n2) (xs ++ x2)) := hid (by simpa using hv4)
          clear hv4 hg4 q0
          go_wp2_with fail
          go_roundw
          case measure => decide
          case rel => exact ⟨2, m + n2, v4, xs ++ x2, rfl, by first | rfl | go_num, V4, B4, .inr (.inr ⟨rfl, rfl, rfl⟩)⟩
        · go_wp2_with fail
          go_ret
          exact ⟨_, rfl, HV.out, HB.out⟩
end Go.Proofs.Ytfoecnlbiaiibaa.nam
