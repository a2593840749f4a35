/-
  Chapter 22: runs of numbers, one by one. Conditions: none.
-/
import Derived.Test.YtjljmohpgjiplaaEvP22
namespace Go.Proofs.Ytjljmohpgjiplaa.ev
set_option maxRecDepth 1000000
theorem refuses9 (w : World) : Calls Try.prog 8 #[.int .i64 9] w (fun e w' => e = .returned (.bool true) ∧ Only [] w w') :=
  lawK knownBody known (f := 300) (args := [.int .i64 9]) (by kernel_rfl) rfl w
theorem refuses10 (w : World) : Calls Try.prog 8 #[.int .i64 10] w (fun e w' => e = .returned (.bool true) ∧ Only [] w w') :=
  lawK knownBody known (f := 300) (args := [.int .i64 10]) (by kernel_rfl) rfl w
theorem refuses11 (w : World) : Calls Try.prog 8 #[.int .i64 11] w (fun e w' => e = .returned (.bool true) ∧ Only [] w w') :=
  lawK knownBody known (f := 300) (args := [.int .i64 11]) (by kernel_rfl) rfl w
theorem refuses12 (w : World) : Calls Try.prog 8 #[.int .i64 12] w (fun e w' => e = .returned (.bool true) ∧ Only [] w w') :=
  lawK knownBody known (f := 300) (args := [.int .i64 12]) (by kernel_rfl) rfl w
end Go.Proofs.Ytjljmohpgjiplaa.ev
