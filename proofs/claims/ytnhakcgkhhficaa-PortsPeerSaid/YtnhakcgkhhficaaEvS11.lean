/-
  Ports: one that is connected hears its peer alone: by the small memory's runs over numbers that are not looked into. Conditions: those typed.
-/
import Derived.Test.YtnhakcgkhhficaaEvS
namespace Go.Proofs.Ytnhakcgkhhficaa.ev
set_option linter.unusedVariables false
set_option maxRecDepth 1000000
theorem peer_p1 (w : World) (a port peer pp other : Int) (h : port < 1) : Calls Try.prog 10 #[.int .u32 a, .int .i64 port, .int .u32 peer, .int .i64 pp, .int .u32 other] w (fun e w' => e = .returned (.bool true) ∧ Only [] w w') := by
  letI : Env := env [.int .u32 a, .int .i64 port, .int .u32 peer, .int .i64 pp, .int .u32 other]
  refine lawS [.int .u32 a, .int .i64 port, .int .u32 peer, .int .i64 pp, .int .u32 other] [.bin .lss (.chan (some 1)) (.int .i64 1) (.bool true)] ?_ (f := 300) (args := [.chan (some 0), .chan (some 1), .chan (some 2), .chan (some 3), .chan (some 4)]) (args' := [.int .u32 a, .int .i64 port, .int .u32 peer, .int .i64 pp, .int .u32 other]) (by kernel_rfl) ?_ w
  · intro e he
    simp only [List.mem_cons, List.not_mem_nil, or_false] at he
    subst he
    · exact entCmp (k := .i64) (a := port) (b := 1) rfl rfl (by show some (decide ((port : Int) < 1)) = some true; rw [decide_eq_true (by omega)])
  · exact (PW.cons (.opq 0 rfl (fun b h => by cases h)) (PW.cons (.opq 1 rfl (fun b h => by cases h)) (PW.cons (.opq 2 rfl (fun b h => by cases h)) (PW.cons (.opq 3 rfl (fun b h => by cases h)) (PW.cons (.opq 4 rfl (fun b h => by cases h)) (PW.nil _))))))
theorem peer_p2 (w : World) (a port peer pp other : Int) (h : 65535 < port) : Calls Try.prog 10 #[.int .u32 a, .int .i64 port, .int .u32 peer, .int .i64 pp, .int .u32 other] w (fun e w' => e = .returned (.bool true) ∧ Only [] w w') := by
  letI : Env := env [.int .u32 a, .int .i64 port, .int .u32 peer, .int .i64 pp, .int .u32 other]
  refine lawS [.int .u32 a, .int .i64 port, .int .u32 peer, .int .i64 pp, .int .u32 other] [.bin .lss (.chan (some 1)) (.int .i64 1) (.bool false), .bin .gtr (.chan (some 1)) (.int .i64 65535) (.bool true)] ?_ (f := 300) (args := [.chan (some 0), .chan (some 1), .chan (some 2), .chan (some 3), .chan (some 4)]) (args' := [.int .u32 a, .int .i64 port, .int .u32 peer, .int .i64 pp, .int .u32 other]) (by kernel_rfl) ?_ w
  · intro e he
    simp only [List.mem_cons, List.not_mem_nil, or_false] at he
    rcases he with rfl | rfl
    · exact entCmp (k := .i64) (a := port) (b := 1) rfl rfl (by show some (decide ((port : Int) < 1)) = some false; rw [decide_eq_false (by omega)])
    · exact entCmp (k := .i64) (a := port) (b := 65535) rfl rfl (by show some (decide ((port : Int) > 65535)) = some true; rw [decide_eq_true (by omega)])
  · exact (PW.cons (.opq 0 rfl (fun b h => by cases h)) (PW.cons (.opq 1 rfl (fun b h => by cases h)) (PW.cons (.opq 2 rfl (fun b h => by cases h)) (PW.cons (.opq 3 rfl (fun b h => by cases h)) (PW.cons (.opq 4 rfl (fun b h => by cases h)) (PW.nil _))))))
theorem peer_p3 (w : World) (a port peer pp other : Int) (h1 : 1 ≤ port) (h2 : port ≤ 65535) (h : pp < 1) : Calls Try.prog 10 #[.int .u32 a, .int .i64 port, .int .u32 peer, .int .i64 pp, .int .u32 other] w (fun e w' => e = .returned (.bool true) ∧ Only [] w w') := by
  letI : Env := env [.int .u32 a, .int .i64 port, .int .u32 peer, .int .i64 pp, .int .u32 other]
  refine lawS [.int .u32 a, .int .i64 port, .int .u32 peer, .int .i64 pp, .int .u32 other] [.bin .lss (.chan (some 1)) (.int .i64 1) (.bool false), .bin .gtr (.chan (some 1)) (.int .i64 65535) (.bool false), .bin .lss (.chan (some 3)) (.int .i64 1) (.bool true)] ?_ (f := 300) (args := [.chan (some 0), .chan (some 1), .chan (some 2), .chan (some 3), .chan (some 4)]) (args' := [.int .u32 a, .int .i64 port, .int .u32 peer, .int .i64 pp, .int .u32 other]) (by kernel_rfl) ?_ w
  · intro e he
    simp only [List.mem_cons, List.not_mem_nil, or_false] at he
    rcases he with rfl | rfl | rfl
    · exact entCmp (k := .i64) (a := port) (b := 1) rfl rfl (by show some (decide ((port : Int) < 1)) = some false; rw [decide_eq_false (by omega)])
    · exact entCmp (k := .i64) (a := port) (b := 65535) rfl rfl (by show some (decide ((port : Int) > 65535)) = some false; rw [decide_eq_false (by omega)])
    · exact entCmp (k := .i64) (a := pp) (b := 1) rfl rfl (by show some (decide ((pp : Int) < 1)) = some true; rw [decide_eq_true (by omega)])
  · exact (PW.cons (.opq 0 rfl (fun b h => by cases h)) (PW.cons (.opq 1 rfl (fun b h => by cases h)) (PW.cons (.opq 2 rfl (fun b h => by cases h)) (PW.cons (.opq 3 rfl (fun b h => by cases h)) (PW.cons (.opq 4 rfl (fun b h => by cases h)) (PW.nil _))))))
theorem peer_p4 (w : World) (a port peer pp other : Int) (h1 : 1 ≤ port) (h2 : port ≤ 65535) (h : 65535 < pp) : Calls Try.prog 10 #[.int .u32 a, .int .i64 port, .int .u32 peer, .int .i64 pp, .int .u32 other] w (fun e w' => e = .returned (.bool true) ∧ Only [] w w') := by
  letI : Env := env [.int .u32 a, .int .i64 port, .int .u32 peer, .int .i64 pp, .int .u32 other]
  refine lawS [.int .u32 a, .int .i64 port, .int .u32 peer, .int .i64 pp, .int .u32 other] [.bin .lss (.chan (some 1)) (.int .i64 1) (.bool false), .bin .gtr (.chan (some 1)) (.int .i64 65535) (.bool false), .bin .lss (.chan (some 3)) (.int .i64 1) (.bool false), .bin .gtr (.chan (some 3)) (.int .i64 65535) (.bool true)] ?_ (f := 300) (args := [.chan (some 0), .chan (some 1), .chan (some 2), .chan (some 3), .chan (some 4)]) (args' := [.int .u32 a, .int .i64 port, .int .u32 peer, .int .i64 pp, .int .u32 other]) (by kernel_rfl) ?_ w
  · intro e he
    simp only [List.mem_cons, List.not_mem_nil, or_false] at he
    rcases he with rfl | rfl | rfl | rfl
    · exact entCmp (k := .i64) (a := port) (b := 1) rfl rfl (by show some (decide ((port : Int) < 1)) = some false; rw [decide_eq_false (by omega)])
    · exact entCmp (k := .i64) (a := port) (b := 65535) rfl rfl (by show some (decide ((port : Int) > 65535)) = some false; rw [decide_eq_false (by omega)])
    · exact entCmp (k := .i64) (a := pp) (b := 1) rfl rfl (by show some (decide ((pp : Int) < 1)) = some false; rw [decide_eq_false (by omega)])
    · exact entCmp (k := .i64) (a := pp) (b := 65535) rfl rfl (by show some (decide ((pp : Int) > 65535)) = some true; rw [decide_eq_true (by omega)])
  · exact (PW.cons (.opq 0 rfl (fun b h => by cases h)) (PW.cons (.opq 1 rfl (fun b h => by cases h)) (PW.cons (.opq 2 rfl (fun b h => by cases h)) (PW.cons (.opq 3 rfl (fun b h => by cases h)) (PW.cons (.opq 4 rfl (fun b h => by cases h)) (PW.nil _))))))
theorem peer_p5 (w : World) (a port peer pp other : Int) (h1 : 1 ≤ port) (h2 : port ≤ 65535) (h3 : 1 ≤ pp) (h4 : pp ≤ 65535) (h : other = peer) (ha : a ≠ 0) : Calls Try.prog 10 #[.int .u32 a, .int .i64 port, .int .u32 peer, .int .i64 pp, .int .u32 other] w (fun e w' => e = .returned (.bool true) ∧ Only [] w w') := by
  letI : Env := env [.int .u32 a, .int .i64 port, .int .u32 peer, .int .i64 pp, .int .u32 other]
  refine lawS [.int .u32 a, .int .i64 port, .int .u32 peer, .int .i64 pp, .int .u32 other] [.bin .lss (.chan (some 1)) (.int .i64 1) (.bool false), .bin .gtr (.chan (some 1)) (.int .i64 65535) (.bool false), .bin .lss (.chan (some 3)) (.int .i64 1) (.bool false), .bin .gtr (.chan (some 3)) (.int .i64 65535) (.bool false), .bin .geq (.chan (some 1)) (.int .i64 1) (.bool true), .bin .leq (.chan (some 1)) (.int .i64 65535) (.bool true), .bin .geq (.chan (some 3)) (.int .i64 0) (.bool true), .bin .leq (.chan (some 3)) (.int .i64 65535) (.bool true), .bin .neq (.chan (some 1)) (.chan (some 1)) (.bool false), .bin .neq (.int .u32 0) (.chan (some 0)) (.bool true), .bin .eql (.chan (some 3)) (.int .i64 0) (.bool false), .bin .eql (.chan (some 2)) (.chan (some 2)) (.bool true), .bin .eql (.chan (some 3)) (.chan (some 3)) (.bool true), .bin .eql (.chan (some 2)) (.chan (some 4)) (.bool true), .bin .eql (.chan (some 4)) (.chan (some 2)) (.bool true)] ?_ (f := 300) (args := [.chan (some 0), .chan (some 1), .chan (some 2), .chan (some 3), .chan (some 4)]) (args' := [.int .u32 a, .int .i64 port, .int .u32 peer, .int .i64 pp, .int .u32 other]) (by kernel_rfl) ?_ w
  · intro e he
    simp only [List.mem_cons, List.not_mem_nil, or_false] at he
    rcases he with rfl | rfl | rfl | rfl | rfl | rfl | rfl | rfl | rfl | rfl | rfl | rfl | rfl | rfl | rfl
    · exact entCmp (k := .i64) (a := port) (b := 1) rfl rfl (by show some (decide ((port : Int) < 1)) = some false; rw [decide_eq_false (by omega)])
    · exact entCmp (k := .i64) (a := port) (b := 65535) rfl rfl (by show some (decide ((port : Int) > 65535)) = some false; rw [decide_eq_false (by omega)])
    · exact entCmp (k := .i64) (a := pp) (b := 1) rfl rfl (by show some (decide ((pp : Int) < 1)) = some false; rw [decide_eq_false (by omega)])
    · exact entCmp (k := .i64) (a := pp) (b := 65535) rfl rfl (by show some (decide ((pp : Int) > 65535)) = some false; rw [decide_eq_false (by omega)])
    · exact entCmp (k := .i64) (a := port) (b := 1) rfl rfl (by show some (decide ((port : Int) ≥ 1)) = some true; rw [decide_eq_true (by omega)])
    · exact entCmp (k := .i64) (a := port) (b := 65535) rfl rfl (by show some (decide ((port : Int) ≤ 65535)) = some true; rw [decide_eq_true (by omega)])
    · exact entCmp (k := .i64) (a := pp) (b := 0) rfl rfl (by show some (decide ((pp : Int) ≥ 0)) = some true; rw [decide_eq_true (by omega)])
    · exact entCmp (k := .i64) (a := pp) (b := 65535) rfl rfl (by show some (decide ((pp : Int) ≤ 65535)) = some true; rw [decide_eq_true (by omega)])
    · exact entCmp (k := .i64) (a := port) (b := port) rfl rfl (by show some ((port : Int) != port) = some false; rw [bne_eq_false_iff_eq.2 (by omega)])
    · exact entCmp (k := .u32) (a := 0) (b := a) rfl rfl (by show some ((0 : Int) != a) = some true; rw [bne_iff_ne.2 (by omega)])
    · exact entCmp (k := .i64) (a := pp) (b := 0) rfl rfl (by show some ((pp : Int) == 0) = some false; rw [beq_eq_false_iff_ne.2 (by omega)])
    · exact entCmp (k := .u32) (a := peer) (b := peer) rfl rfl (by show some ((peer : Int) == peer) = some true; rw [beq_iff_eq.2 (by omega)])
    · exact entCmp (k := .i64) (a := pp) (b := pp) rfl rfl (by show some ((pp : Int) == pp) = some true; rw [beq_iff_eq.2 (by omega)])
    · exact entCmp (k := .u32) (a := peer) (b := other) rfl rfl (by show some ((peer : Int) == other) = some true; rw [beq_iff_eq.2 (by omega)])
    · exact entCmp (k := .u32) (a := other) (b := peer) rfl rfl (by show some ((other : Int) == peer) = some true; rw [beq_iff_eq.2 (by omega)])
  · exact (PW.cons (.opq 0 rfl (fun b h => by cases h)) (PW.cons (.opq 1 rfl (fun b h => by cases h)) (PW.cons (.opq 2 rfl (fun b h => by cases h)) (PW.cons (.opq 3 rfl (fun b h => by cases h)) (PW.cons (.opq 4 rfl (fun b h => by cases h)) (PW.nil _))))))
theorem peer_p6 (w : World) (a port peer pp other : Int) (h1 : 1 ≤ port) (h2 : port ≤ 65535) (h3 : 1 ≤ pp) (h4 : pp ≤ 65535) (h : other ≠ peer) (ha : a ≠ 0) : Calls Try.prog 10 #[.int .u32 a, .int .i64 port, .int .u32 peer, .int .i64 pp, .int .u32 other] w (fun e w' => e = .returned (.bool true) ∧ Only [] w w') := by
  letI : Env := env [.int .u32 a, .int .i64 port, .int .u32 peer, .int .i64 pp, .int .u32 other]
  refine lawS [.int .u32 a, .int .i64 port, .int .u32 peer, .int .i64 pp, .int .u32 other] [.bin .lss (.chan (some 1)) (.int .i64 1) (.bool false), .bin .gtr (.chan (some 1)) (.int .i64 65535) (.bool false), .bin .lss (.chan (some 3)) (.int .i64 1) (.bool false), .bin .gtr (.chan (some 3)) (.int .i64 65535) (.bool false), .bin .geq (.chan (some 1)) (.int .i64 1) (.bool true), .bin .leq (.chan (some 1)) (.int .i64 65535) (.bool true), .bin .geq (.chan (some 3)) (.int .i64 0) (.bool true), .bin .leq (.chan (some 3)) (.int .i64 65535) (.bool true), .bin .neq (.chan (some 1)) (.chan (some 1)) (.bool false), .bin .neq (.int .u32 0) (.chan (some 0)) (.bool true), .bin .eql (.chan (some 3)) (.int .i64 0) (.bool false), .bin .eql (.chan (some 2)) (.chan (some 2)) (.bool true), .bin .eql (.chan (some 3)) (.chan (some 3)) (.bool true), .bin .eql (.chan (some 2)) (.chan (some 4)) (.bool false), .bin .eql (.chan (some 4)) (.chan (some 2)) (.bool false)] ?_ (f := 300) (args := [.chan (some 0), .chan (some 1), .chan (some 2), .chan (some 3), .chan (some 4)]) (args' := [.int .u32 a, .int .i64 port, .int .u32 peer, .int .i64 pp, .int .u32 other]) (by kernel_rfl) ?_ w
  · intro e he
    simp only [List.mem_cons, List.not_mem_nil, or_false] at he
    rcases he with rfl | rfl | rfl | rfl | rfl | rfl | rfl | rfl | rfl | rfl | rfl | rfl | rfl | rfl | rfl
    · exact entCmp (k := .i64) (a := port) (b := 1) rfl rfl (by show some (decide ((port : Int) < 1)) = some false; rw [decide_eq_false (by omega)])
    · exact entCmp (k := .i64) (a := port) (b := 65535) rfl rfl (by show some (decide ((port : Int) > 65535)) = some false; rw [decide_eq_false (by omega)])
    · exact entCmp (k := .i64) (a := pp) (b := 1) rfl rfl (by show some (decide ((pp : Int) < 1)) = some false; rw [decide_eq_false (by omega)])
    · exact entCmp (k := .i64) (a := pp) (b := 65535) rfl rfl (by show some (decide ((pp : Int) > 65535)) = some false; rw [decide_eq_false (by omega)])
    · exact entCmp (k := .i64) (a := port) (b := 1) rfl rfl (by show some (decide ((port : Int) ≥ 1)) = some true; rw [decide_eq_true (by omega)])
    · exact entCmp (k := .i64) (a := port) (b := 65535) rfl rfl (by show some (decide ((port : Int) ≤ 65535)) = some true; rw [decide_eq_true (by omega)])
    · exact entCmp (k := .i64) (a := pp) (b := 0) rfl rfl (by show some (decide ((pp : Int) ≥ 0)) = some true; rw [decide_eq_true (by omega)])
    · exact entCmp (k := .i64) (a := pp) (b := 65535) rfl rfl (by show some (decide ((pp : Int) ≤ 65535)) = some true; rw [decide_eq_true (by omega)])
    · exact entCmp (k := .i64) (a := port) (b := port) rfl rfl (by show some ((port : Int) != port) = some false; rw [bne_eq_false_iff_eq.2 (by omega)])
    · exact entCmp (k := .u32) (a := 0) (b := a) rfl rfl (by show some ((0 : Int) != a) = some true; rw [bne_iff_ne.2 (by omega)])
    · exact entCmp (k := .i64) (a := pp) (b := 0) rfl rfl (by show some ((pp : Int) == 0) = some false; rw [beq_eq_false_iff_ne.2 (by omega)])
    · exact entCmp (k := .u32) (a := peer) (b := peer) rfl rfl (by show some ((peer : Int) == peer) = some true; rw [beq_iff_eq.2 (by omega)])
    · exact entCmp (k := .i64) (a := pp) (b := pp) rfl rfl (by show some ((pp : Int) == pp) = some true; rw [beq_iff_eq.2 (by omega)])
    · exact entCmp (k := .u32) (a := peer) (b := other) rfl rfl (by show some ((peer : Int) == other) = some false; rw [beq_eq_false_iff_ne.2 (by omega)])
    · exact entCmp (k := .u32) (a := other) (b := peer) rfl rfl (by show some ((other : Int) == peer) = some false; rw [beq_eq_false_iff_ne.2 (by omega)])
  · exact (PW.cons (.opq 0 rfl (fun b h => by cases h)) (PW.cons (.opq 1 rfl (fun b h => by cases h)) (PW.cons (.opq 2 rfl (fun b h => by cases h)) (PW.cons (.opq 3 rfl (fun b h => by cases h)) (PW.cons (.opq 4 rfl (fun b h => by cases h)) (PW.nil _))))))
theorem peer_p5z (w : World) (a port peer pp other : Int) (h1 : 1 ≤ port) (h2 : port ≤ 65535) (h3 : 1 ≤ pp) (h4 : pp ≤ 65535) (h : other = peer) (ha : a = 0) : Calls Try.prog 10 #[.int .u32 a, .int .i64 port, .int .u32 peer, .int .i64 pp, .int .u32 other] w (fun e w' => e = .returned (.bool true) ∧ Only [] w w') := by
  letI : Env := env [.int .u32 a, .int .i64 port, .int .u32 peer, .int .i64 pp, .int .u32 other]
  refine lawS [.int .u32 a, .int .i64 port, .int .u32 peer, .int .i64 pp, .int .u32 other] [.bin .lss (.chan (some 1)) (.int .i64 1) (.bool false), .bin .gtr (.chan (some 1)) (.int .i64 65535) (.bool false), .bin .lss (.chan (some 3)) (.int .i64 1) (.bool false), .bin .gtr (.chan (some 3)) (.int .i64 65535) (.bool false), .bin .geq (.chan (some 1)) (.int .i64 1) (.bool true), .bin .leq (.chan (some 1)) (.int .i64 65535) (.bool true), .bin .geq (.chan (some 3)) (.int .i64 0) (.bool true), .bin .leq (.chan (some 3)) (.int .i64 65535) (.bool true), .bin .neq (.chan (some 1)) (.chan (some 1)) (.bool false), .bin .neq (.int .u32 0) (.chan (some 0)) (.bool false), .bin .eql (.chan (some 3)) (.int .i64 0) (.bool false), .bin .eql (.chan (some 2)) (.chan (some 2)) (.bool true), .bin .eql (.chan (some 3)) (.chan (some 3)) (.bool true), .bin .eql (.chan (some 2)) (.chan (some 4)) (.bool true), .bin .eql (.chan (some 4)) (.chan (some 2)) (.bool true)] ?_ (f := 300) (args := [.chan (some 0), .chan (some 1), .chan (some 2), .chan (some 3), .chan (some 4)]) (args' := [.int .u32 a, .int .i64 port, .int .u32 peer, .int .i64 pp, .int .u32 other]) (by kernel_rfl) ?_ w
  · intro e he
    simp only [List.mem_cons, List.not_mem_nil, or_false] at he
    rcases he with rfl | rfl | rfl | rfl | rfl | rfl | rfl | rfl | rfl | rfl | rfl | rfl | rfl | rfl | rfl
    · exact entCmp (k := .i64) (a := port) (b := 1) rfl rfl (by show some (decide ((port : Int) < 1)) = some false; rw [decide_eq_false (by omega)])
    · exact entCmp (k := .i64) (a := port) (b := 65535) rfl rfl (by show some (decide ((port : Int) > 65535)) = some false; rw [decide_eq_false (by omega)])
    · exact entCmp (k := .i64) (a := pp) (b := 1) rfl rfl (by show some (decide ((pp : Int) < 1)) = some false; rw [decide_eq_false (by omega)])
    · exact entCmp (k := .i64) (a := pp) (b := 65535) rfl rfl (by show some (decide ((pp : Int) > 65535)) = some false; rw [decide_eq_false (by omega)])
    · exact entCmp (k := .i64) (a := port) (b := 1) rfl rfl (by show some (decide ((port : Int) ≥ 1)) = some true; rw [decide_eq_true (by omega)])
    · exact entCmp (k := .i64) (a := port) (b := 65535) rfl rfl (by show some (decide ((port : Int) ≤ 65535)) = some true; rw [decide_eq_true (by omega)])
    · exact entCmp (k := .i64) (a := pp) (b := 0) rfl rfl (by show some (decide ((pp : Int) ≥ 0)) = some true; rw [decide_eq_true (by omega)])
    · exact entCmp (k := .i64) (a := pp) (b := 65535) rfl rfl (by show some (decide ((pp : Int) ≤ 65535)) = some true; rw [decide_eq_true (by omega)])
    · exact entCmp (k := .i64) (a := port) (b := port) rfl rfl (by show some ((port : Int) != port) = some false; rw [bne_eq_false_iff_eq.2 (by omega)])
    · exact entCmp (k := .u32) (a := 0) (b := a) rfl rfl (by show some ((0 : Int) != a) = some false; rw [bne_eq_false_iff_eq.2 (by omega)])
    · exact entCmp (k := .i64) (a := pp) (b := 0) rfl rfl (by show some ((pp : Int) == 0) = some false; rw [beq_eq_false_iff_ne.2 (by omega)])
    · exact entCmp (k := .u32) (a := peer) (b := peer) rfl rfl (by show some ((peer : Int) == peer) = some true; rw [beq_iff_eq.2 (by omega)])
    · exact entCmp (k := .i64) (a := pp) (b := pp) rfl rfl (by show some ((pp : Int) == pp) = some true; rw [beq_iff_eq.2 (by omega)])
    · exact entCmp (k := .u32) (a := peer) (b := other) rfl rfl (by show some ((peer : Int) == other) = some true; rw [beq_iff_eq.2 (by omega)])
    · exact entCmp (k := .u32) (a := other) (b := peer) rfl rfl (by show some ((other : Int) == peer) = some true; rw [beq_iff_eq.2 (by omega)])
  · exact (PW.cons (.opq 0 rfl (fun b h => by cases h)) (PW.cons (.opq 1 rfl (fun b h => by cases h)) (PW.cons (.opq 2 rfl (fun b h => by cases h)) (PW.cons (.opq 3 rfl (fun b h => by cases h)) (PW.cons (.opq 4 rfl (fun b h => by cases h)) (PW.nil _))))))
theorem peer_p6z (w : World) (a port peer pp other : Int) (h1 : 1 ≤ port) (h2 : port ≤ 65535) (h3 : 1 ≤ pp) (h4 : pp ≤ 65535) (h : other ≠ peer) (ha : a = 0) : Calls Try.prog 10 #[.int .u32 a, .int .i64 port, .int .u32 peer, .int .i64 pp, .int .u32 other] w (fun e w' => e = .returned (.bool true) ∧ Only [] w w') := by
  letI : Env := env [.int .u32 a, .int .i64 port, .int .u32 peer, .int .i64 pp, .int .u32 other]
  refine lawS [.int .u32 a, .int .i64 port, .int .u32 peer, .int .i64 pp, .int .u32 other] [.bin .lss (.chan (some 1)) (.int .i64 1) (.bool false), .bin .gtr (.chan (some 1)) (.int .i64 65535) (.bool false), .bin .lss (.chan (some 3)) (.int .i64 1) (.bool false), .bin .gtr (.chan (some 3)) (.int .i64 65535) (.bool false), .bin .geq (.chan (some 1)) (.int .i64 1) (.bool true), .bin .leq (.chan (some 1)) (.int .i64 65535) (.bool true), .bin .geq (.chan (some 3)) (.int .i64 0) (.bool true), .bin .leq (.chan (some 3)) (.int .i64 65535) (.bool true), .bin .neq (.chan (some 1)) (.chan (some 1)) (.bool false), .bin .neq (.int .u32 0) (.chan (some 0)) (.bool false), .bin .eql (.chan (some 3)) (.int .i64 0) (.bool false), .bin .eql (.chan (some 2)) (.chan (some 2)) (.bool true), .bin .eql (.chan (some 3)) (.chan (some 3)) (.bool true), .bin .eql (.chan (some 2)) (.chan (some 4)) (.bool false), .bin .eql (.chan (some 4)) (.chan (some 2)) (.bool false)] ?_ (f := 300) (args := [.chan (some 0), .chan (some 1), .chan (some 2), .chan (some 3), .chan (some 4)]) (args' := [.int .u32 a, .int .i64 port, .int .u32 peer, .int .i64 pp, .int .u32 other]) (by kernel_rfl) ?_ w
  · intro e he
    simp only [List.mem_cons, List.not_mem_nil, or_false] at he
    rcases he with rfl | rfl | rfl | rfl | rfl | rfl | rfl | rfl | rfl | rfl | rfl | rfl | rfl | rfl | rfl
    · exact entCmp (k := .i64) (a := port) (b := 1) rfl rfl (by show some (decide ((port : Int) < 1)) = some false; rw [decide_eq_false (by omega)])
    · exact entCmp (k := .i64) (a := port) (b := 65535) rfl rfl (by show some (decide ((port : Int) > 65535)) = some false; rw [decide_eq_false (by omega)])
    · exact entCmp (k := .i64) (a := pp) (b := 1) rfl rfl (by show some (decide ((pp : Int) < 1)) = some false; rw [decide_eq_false (by omega)])
    · exact entCmp (k := .i64) (a := pp) (b := 65535) rfl rfl (by show some (decide ((pp : Int) > 65535)) = some false; rw [decide_eq_false (by omega)])
    · exact entCmp (k := .i64) (a := port) (b := 1) rfl rfl (by show some (decide ((port : Int) ≥ 1)) = some true; rw [decide_eq_true (by omega)])
    · exact entCmp (k := .i64) (a := port) (b := 65535) rfl rfl (by show some (decide ((port : Int) ≤ 65535)) = some true; rw [decide_eq_true (by omega)])
    · exact entCmp (k := .i64) (a := pp) (b := 0) rfl rfl (by show some (decide ((pp : Int) ≥ 0)) = some true; rw [decide_eq_true (by omega)])
    · exact entCmp (k := .i64) (a := pp) (b := 65535) rfl rfl (by show some (decide ((pp : Int) ≤ 65535)) = some true; rw [decide_eq_true (by omega)])
    · exact entCmp (k := .i64) (a := port) (b := port) rfl rfl (by show some ((port : Int) != port) = some false; rw [bne_eq_false_iff_eq.2 (by omega)])
    · exact entCmp (k := .u32) (a := 0) (b := a) rfl rfl (by show some ((0 : Int) != a) = some false; rw [bne_eq_false_iff_eq.2 (by omega)])
    · exact entCmp (k := .i64) (a := pp) (b := 0) rfl rfl (by show some ((pp : Int) == 0) = some false; rw [beq_eq_false_iff_ne.2 (by omega)])
    · exact entCmp (k := .u32) (a := peer) (b := peer) rfl rfl (by show some ((peer : Int) == peer) = some true; rw [beq_iff_eq.2 (by omega)])
    · exact entCmp (k := .i64) (a := pp) (b := pp) rfl rfl (by show some ((pp : Int) == pp) = some true; rw [beq_iff_eq.2 (by omega)])
    · exact entCmp (k := .u32) (a := peer) (b := other) rfl rfl (by show some ((peer : Int) == other) = some false; rw [beq_eq_false_iff_ne.2 (by omega)])
    · exact entCmp (k := .u32) (a := other) (b := peer) rfl rfl (by show some ((other : Int) == peer) = some false; rw [beq_eq_false_iff_ne.2 (by omega)])
  · exact (PW.cons (.opq 0 rfl (fun b h => by cases h)) (PW.cons (.opq 1 rfl (fun b h => by cases h)) (PW.cons (.opq 2 rfl (fun b h => by cases h)) (PW.cons (.opq 3 rfl (fun b h => by cases h)) (PW.cons (.opq 4 rfl (fun b h => by cases h)) (PW.nil _))))))
theorem portsPeer (w : World) (a port peer pp other : Int) : Calls Try.prog 10 #[.int .u32 a, .int .i64 port, .int .u32 peer, .int .i64 pp, .int .u32 other] w (fun e w' => e = .returned (.bool true) ∧ Only [] w w') := by
  by_cases h1 : port < 1
  · exact peer_p1 w a port peer pp other h1
  by_cases h2 : 65535 < port
  · exact peer_p2 w a port peer pp other h2
  by_cases h3 : pp < 1
  · exact peer_p3 w a port peer pp other (by omega) (by omega) h3
  by_cases h4 : 65535 < pp
  · exact peer_p4 w a port peer pp other (by omega) (by omega) h4
  by_cases h5 : other = peer
  · by_cases ha : a = 0
    · exact peer_p5z w a port peer pp other (by omega) (by omega) (by omega) (by omega) h5 ha
    · exact peer_p5 w a port peer pp other (by omega) (by omega) (by omega) (by omega) h5 ha
  · by_cases ha : a = 0
    · exact peer_p6z w a port peer pp other (by omega) (by omega) (by omega) (by omega) h5 ha
    · exact peer_p6 w a port peer pp other (by omega) (by omega) (by omega) (by omega) h5 ha
end Go.Proofs.Ytnhakcgkhhficaa.ev
