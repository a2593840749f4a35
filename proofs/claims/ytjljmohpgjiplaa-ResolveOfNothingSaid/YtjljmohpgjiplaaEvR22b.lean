/-
  Chapter 22: runs of numbers, one by one. Conditions: none.
-/
import Derived.Test.YtjljmohpgjiplaaEvP22
namespace Go.Proofs.Ytjljmohpgjiplaa.ev
set_option maxRecDepth 1000000
theorem refuses5 (w : World) : Calls Try.prog 8 #[.int .i64 5] w (fun e w' => e = .returned (.bool true) ∧ Only [] w w') :=
  lawK knownBody known (f := 300) (args := [.int .i64 5]) (by kernel_rfl) rfl w
theorem refuses6 (w : World) : Calls Try.prog 8 #[.int .i64 6] w (fun e w' => e = .returned (.bool true) ∧ Only [] w w') :=
  lawK knownBody known (f := 300) (args := [.int .i64 6]) (by kernel_rfl) rfl w
theorem refuses7 (w : World) : Calls Try.prog 8 #[.int .i64 7] w (fun e w' => e = .returned (.bool true) ∧ Only [] w w') :=
  lawK knownBody known (f := 300) (args := [.int .i64 7]) (by kernel_rfl) rfl w
theorem refuses8 (w : World) : Calls Try.prog 8 #[.int .i64 8] w (fun e w' => e = .returned (.bool true) ∧ Only [] w w') :=
  lawK knownBody known (f := 300) (args := [.int .i64 8]) (by kernel_rfl) rfl w
end Go.Proofs.Ytjljmohpgjiplaa.ev
