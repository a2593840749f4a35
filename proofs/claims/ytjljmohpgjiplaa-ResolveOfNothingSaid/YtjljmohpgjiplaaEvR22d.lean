/-
  Chapter 22: runs of numbers, one by one. Conditions: none.
-/
import Derived.Test.YtjljmohpgjiplaaEvP22
namespace Go.Proofs.Ytjljmohpgjiplaa.ev
set_option maxRecDepth 1000000
theorem refuses13 (w : World) : Calls Try.prog 8 #[.int .i64 13] w (fun e w' => e = .returned (.bool true) ∧ Only [] w w') :=
  lawK knownBody known (f := 300) (args := [.int .i64 13]) (by kernel_rfl) rfl w
theorem refuses14 (w : World) : Calls Try.prog 8 #[.int .i64 14] w (fun e w' => e = .returned (.bool true) ∧ Only [] w w') :=
  lawK knownBody known (f := 300) (args := [.int .i64 14]) (by kernel_rfl) rfl w
theorem refuses15 (w : World) : Calls Try.prog 8 #[.int .i64 15] w (fun e w' => e = .returned (.bool true) ∧ Only [] w w') :=
  lawK knownBody known (f := 300) (args := [.int .i64 15]) (by kernel_rfl) rfl w
end Go.Proofs.Ytjljmohpgjiplaa.ev
