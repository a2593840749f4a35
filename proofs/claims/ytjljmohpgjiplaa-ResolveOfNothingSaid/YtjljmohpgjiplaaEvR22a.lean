/-
  Chapter 22: runs of numbers, one by one. Conditions: none.
-/
import Derived.Test.YtjljmohpgjiplaaEvP22
namespace Go.Proofs.Ytjljmohpgjiplaa.ev
set_option maxRecDepth 1000000
theorem refuses1 (w : World) : Calls Try.prog 8 #[.int .i64 1] w (fun e w' => e = .returned (.bool true) ∧ Only [] w w') :=
  lawK knownBody known (f := 300) (args := [.int .i64 1]) (by kernel_rfl) rfl w
theorem refuses2 (w : World) : Calls Try.prog 8 #[.int .i64 2] w (fun e w' => e = .returned (.bool true) ∧ Only [] w w') :=
  lawK knownBody known (f := 300) (args := [.int .i64 2]) (by kernel_rfl) rfl w
theorem refuses3 (w : World) : Calls Try.prog 8 #[.int .i64 3] w (fun e w' => e = .returned (.bool true) ∧ Only [] w w') :=
  lawK knownBody known (f := 300) (args := [.int .i64 3]) (by kernel_rfl) rfl w
theorem refuses4 (w : World) : Calls Try.prog 8 #[.int .i64 4] w (fun e w' => e = .returned (.bool true) ∧ Only [] w w') :=
  lawK knownBody known (f := 300) (args := [.int .i64 4]) (by kernel_rfl) rfl w
end Go.Proofs.Ytjljmohpgjiplaa.ev
