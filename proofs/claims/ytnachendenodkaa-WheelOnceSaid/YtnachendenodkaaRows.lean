/-
  No cell of these rows narrows 'for every input' (looked for: loops, veiled, ifaces, maps, wideKeys, modest, calm, conditions, laid).
  DERIVED. THE GIVEN ROWS OF THIS SEAT. 6 by the template 'for every input the law returns true; each argument reads behind the call as it read before'; 0 by the template 'total and deterministic' (their statements: YtnachendenodkaaTotals.lean).
  GIVEN WITH THE SEED: the statements are not yours to turn. If you find one false, say at which input.
  Laid BY PROGRAM, IN A SANDBOX (cutbox-rows.mjs): the forced cells as the released guide's own fill.sh prints them over the translation d67b8e3d156bb97f… (all of the seat's roots in one cut). By AI agents, Wed Nov 11 2026. No macro, syntax, notation, axiom, sorry.
-/
import Derived.Test.YtnachendenodkaaChecked
import GoSem.Claim
import GoSem.ClaimJoined
import GoSem.ClaimMapViews
import Derived.JoinedTies
import Derived.KernelRfl
namespace Go.Proofs.Ytnachendenodkaa
/- THE CELL 'sum', in the pinned program and in every row, IS THE sha256 OF THE DUMP (.gsa) THAT YtnachendenodkaaProg.lean LOADS. Nothing in Lean hashes anything: it is a label: what it is worth is what the hold of that sum in a sandbox is worth. -/
noncomputable def Try.pinned : Pinned := { name := "ytnachendenodkaa", sum := "d67b8e3d156bb97f166fa6ece304e6311446af4c531de4e45d8a4d2d56ebcea5", checked := Try.checked }
namespace Rows
def none {H : Type} : Left H := { results := [], args := [] }

/-- 'wharflaw3.WheelPlays': WHATEVER THE INPUT: true; the input reads as it did. -/
def wheelPlaysSpec : ChangeSpec := { name := "wheelPlays", fn := fun _ => fun
  | [d] => { results := [.lit (.bool true)], args := [d] }
  | _ => none }
def wheelPlaysRow : OpenClaim := { program := "ytnachendenodkaa", sum := "d67b8e3d156bb97f166fa6ece304e6311446af4c531de4e45d8a4d2d56ebcea5", func := "wharf/wharflaw3.WheelPlays", spec := "wheelPlays", unfollowed := true, recurses := true, apart := false }
def WheelPlaysSaid : Prop := wheelPlaysRow.holds Try.pinned (OpenSpec.ofChange wheelPlaysSpec)

/-- ITS FALSE NEIGHBOUR: 'it returns false'. Refute it at one input. -/
def wheelPlaysWrong : ChangeSpec := { name := "wheelPlays", fn := fun _ => fun
  | [d] => { results := [.lit (.bool false)], args := [d] }
  | _ => none }
def WheelPlaysWrongFalsely : Prop := wheelPlaysRow.holds Try.pinned (OpenSpec.ofChange wheelPlaysWrong)

/-- 'wharflaw3.WheelOnce': WHATEVER THE INPUT: true; the input reads as it did. -/
def wheelOnceSpec : ChangeSpec := { name := "wheelOnce", fn := fun _ => fun
  | [d1, d2] => { results := [.lit (.bool true)], args := [d1, d2] }
  | _ => none }
def wheelOnceRow : OpenClaim := { program := "ytnachendenodkaa", sum := "d67b8e3d156bb97f166fa6ece304e6311446af4c531de4e45d8a4d2d56ebcea5", func := "wharf/wharflaw3.WheelOnce", spec := "wheelOnce", unfollowed := true, recurses := true, apart := false }
def WheelOnceSaid : Prop := wheelOnceRow.holds Try.pinned (OpenSpec.ofChange wheelOnceSpec)

/-- ITS FALSE NEIGHBOUR: 'it returns false'. Refute it at one input. -/
def wheelOnceWrong : ChangeSpec := { name := "wheelOnce", fn := fun _ => fun
  | [d1, d2] => { results := [.lit (.bool false)], args := [d1, d2] }
  | _ => none }
def WheelOnceWrongFalsely : Prop := wheelOnceRow.holds Try.pinned (OpenSpec.ofChange wheelOnceWrong)

/-- 'wharflaw3.WheelRoom': WHATEVER THE INPUT: true; the input reads as it did. -/
def wheelRoomSpec : ChangeSpec := { name := "wheelRoom", fn := fun _ => fun
  | [d1, d2] => { results := [.lit (.bool true)], args := [d1, d2] }
  | _ => none }
def wheelRoomRow : OpenClaim := { program := "ytnachendenodkaa", sum := "d67b8e3d156bb97f166fa6ece304e6311446af4c531de4e45d8a4d2d56ebcea5", func := "wharf/wharflaw3.WheelRoom", spec := "wheelRoom", unfollowed := true, recurses := true, apart := false }
def WheelRoomSaid : Prop := wheelRoomRow.holds Try.pinned (OpenSpec.ofChange wheelRoomSpec)

/-- ITS FALSE NEIGHBOUR: 'it returns false'. Refute it at one input. -/
def wheelRoomWrong : ChangeSpec := { name := "wheelRoom", fn := fun _ => fun
  | [d1, d2] => { results := [.lit (.bool false)], args := [d1, d2] }
  | _ => none }
def WheelRoomWrongFalsely : Prop := wheelRoomRow.holds Try.pinned (OpenSpec.ofChange wheelRoomWrong)

/-- 'wharflaw3.WheelOfNothing': WHATEVER THE INPUT: true; the input reads as it did. -/
def wheelOfNothingSpec : ChangeSpec := { name := "wheelOfNothing", fn := fun _ => fun
  | [d1, d2] => { results := [.lit (.bool true)], args := [d1, d2] }
  | _ => none }
def wheelOfNothingRow : OpenClaim := { program := "ytnachendenodkaa", sum := "d67b8e3d156bb97f166fa6ece304e6311446af4c531de4e45d8a4d2d56ebcea5", func := "wharf/wharflaw3.WheelOfNothing", spec := "wheelOfNothing", unfollowed := true, recurses := true, apart := false }
def WheelOfNothingSaid : Prop := wheelOfNothingRow.holds Try.pinned (OpenSpec.ofChange wheelOfNothingSpec)

/-- ITS FALSE NEIGHBOUR: 'it returns false'. Refute it at one input. -/
def wheelOfNothingWrong : ChangeSpec := { name := "wheelOfNothing", fn := fun _ => fun
  | [d1, d2] => { results := [.lit (.bool false)], args := [d1, d2] }
  | _ => none }
def WheelOfNothingWrongFalsely : Prop := wheelOfNothingRow.holds Try.pinned (OpenSpec.ofChange wheelOfNothingWrong)

/-- 'wharflaw3.WheelMoves': WHATEVER THE INPUT: true; the input reads as it did. -/
def wheelMovesSpec : ChangeSpec := { name := "wheelMoves", fn := fun _ => fun
  | [d1, d2, d3] => { results := [.lit (.bool true)], args := [d1, d2, d3] }
  | _ => none }
def wheelMovesRow : OpenClaim := { program := "ytnachendenodkaa", sum := "d67b8e3d156bb97f166fa6ece304e6311446af4c531de4e45d8a4d2d56ebcea5", func := "wharf/wharflaw3.WheelMoves", spec := "wheelMoves", unfollowed := true, recurses := true, apart := false }
def WheelMovesSaid : Prop := wheelMovesRow.holds Try.pinned (OpenSpec.ofChange wheelMovesSpec)

/-- ITS FALSE NEIGHBOUR: 'it returns false'. Refute it at one input. -/
def wheelMovesWrong : ChangeSpec := { name := "wheelMoves", fn := fun _ => fun
  | [d1, d2, d3] => { results := [.lit (.bool false)], args := [d1, d2, d3] }
  | _ => none }
def WheelMovesWrongFalsely : Prop := wheelMovesRow.holds Try.pinned (OpenSpec.ofChange wheelMovesWrong)

/-- 'wharflaw3.WheelSorted': WHATEVER THE INPUT: true; the input reads as it did. -/
def wheelSortedSpec : ChangeSpec := { name := "wheelSorted", fn := fun _ => fun
  | [d1, d2] => { results := [.lit (.bool true)], args := [d1, d2] }
  | _ => none }
def wheelSortedRow : OpenClaim := { program := "ytnachendenodkaa", sum := "d67b8e3d156bb97f166fa6ece304e6311446af4c531de4e45d8a4d2d56ebcea5", func := "wharf/wharflaw3.WheelSorted", spec := "wheelSorted", unfollowed := true, recurses := true, apart := false }
def WheelSortedSaid : Prop := wheelSortedRow.holds Try.pinned (OpenSpec.ofChange wheelSortedSpec)

/-- ITS FALSE NEIGHBOUR: 'it returns false'. Refute it at one input. -/
def wheelSortedWrong : ChangeSpec := { name := "wheelSorted", fn := fun _ => fun
  | [d1, d2] => { results := [.lit (.bool false)], args := [d1, d2] }
  | _ => none }
def WheelSortedWrongFalsely : Prop := wheelSortedRow.holds Try.pinned (OpenSpec.ofChange wheelSortedWrong)

/- THE SECOND FORM. 'bulk': how many values and letters a reading holds, each counted each time it is reached (what is shared counts as often as it is met; a slice's spare places count too). A statement '..UptoSaid' is the law's where the arguments, and the package variables that the reading takes, are together of bulk at most 1048576: NARROWER than '..Said'. Prove '..Said' where nothing that the law and all that it calls make is longer than what came in: it says more and counts as full. Else prove '..UptoSaid'. A law counts once. -/
mutual
def uptoBulk {H : Type} : DataW H → Nat
  | .lit (.string bytes) => bytes.length + 1
  | .lit _ => 1
  | .nil => 1
  | .ptr d => uptoBulk d + 1
  | .slice elems spare => uptoBulkAll elems + uptoBulkAll spare + 1
  | .agg parts => uptoBulkAll parts + 1
  | .iface _ d => uptoBulk d + 1
  | .map entries => uptoBulkEntries entries + 1
  | .held _ => 1
def uptoBulkAll {H : Type} : List (DataW H) → Nat
  | [] => 0
  | d :: r => uptoBulk d + uptoBulkAll r
def uptoBulkEntries {H : Type} : List (Lit × DataW H) → Nat
  | [] => 0
  | x :: r => uptoBulkEntry x + uptoBulkEntries r
def uptoBulkEntry {H : Type} : Lit × DataW H → Nat
  | (.string bytes, d) => bytes.length + uptoBulk d + 1
  | (_, d) => uptoBulk d + 1
 end
def uptoSmall : (H : Type) → List (DataW H) → Bool := fun _ ds => decide (uptoBulkAll ds ≤ 1048576)
def OpenSpec.upto (s : _root_.Go.ChangeSpec) : _root_.Go.OpenSpec := { _root_.Go.OpenSpec.ofChange s with cond := some uptoSmall }

/-- 'wharflaw3.WheelPlays', WHERE WHAT IT READS IS OF BULK AT MOST 1048576: true; the input reads as it did. -/
def wheelPlaysUptoRow : OpenClaim := { program := "ytnachendenodkaa", sum := "d67b8e3d156bb97f166fa6ece304e6311446af4c531de4e45d8a4d2d56ebcea5", func := "wharf/wharflaw3.WheelPlays", spec := "wheelPlays", unfollowed := true, recurses := true, apart := false, narrowed := true }
def WheelPlaysUptoSaid : Prop := wheelPlaysUptoRow.holds Try.pinned (OpenSpec.upto wheelPlaysSpec)

/-- 'wharflaw3.WheelOnce', WHERE WHAT IT READS IS OF BULK AT MOST 1048576: true; the input reads as it did. -/
def wheelOnceUptoRow : OpenClaim := { program := "ytnachendenodkaa", sum := "d67b8e3d156bb97f166fa6ece304e6311446af4c531de4e45d8a4d2d56ebcea5", func := "wharf/wharflaw3.WheelOnce", spec := "wheelOnce", unfollowed := true, recurses := true, apart := false, narrowed := true }
def WheelOnceUptoSaid : Prop := wheelOnceUptoRow.holds Try.pinned (OpenSpec.upto wheelOnceSpec)

/-- 'wharflaw3.WheelRoom', WHERE WHAT IT READS IS OF BULK AT MOST 1048576: true; the input reads as it did. -/
def wheelRoomUptoRow : OpenClaim := { program := "ytnachendenodkaa", sum := "d67b8e3d156bb97f166fa6ece304e6311446af4c531de4e45d8a4d2d56ebcea5", func := "wharf/wharflaw3.WheelRoom", spec := "wheelRoom", unfollowed := true, recurses := true, apart := false, narrowed := true }
def WheelRoomUptoSaid : Prop := wheelRoomUptoRow.holds Try.pinned (OpenSpec.upto wheelRoomSpec)

/-- 'wharflaw3.WheelOfNothing', WHERE WHAT IT READS IS OF BULK AT MOST 1048576: true; the input reads as it did. -/
def wheelOfNothingUptoRow : OpenClaim := { program := "ytnachendenodkaa", sum := "d67b8e3d156bb97f166fa6ece304e6311446af4c531de4e45d8a4d2d56ebcea5", func := "wharf/wharflaw3.WheelOfNothing", spec := "wheelOfNothing", unfollowed := true, recurses := true, apart := false, narrowed := true }
def WheelOfNothingUptoSaid : Prop := wheelOfNothingUptoRow.holds Try.pinned (OpenSpec.upto wheelOfNothingSpec)

/-- 'wharflaw3.WheelMoves', WHERE WHAT IT READS IS OF BULK AT MOST 1048576: true; the input reads as it did. -/
def wheelMovesUptoRow : OpenClaim := { program := "ytnachendenodkaa", sum := "d67b8e3d156bb97f166fa6ece304e6311446af4c531de4e45d8a4d2d56ebcea5", func := "wharf/wharflaw3.WheelMoves", spec := "wheelMoves", unfollowed := true, recurses := true, apart := false, narrowed := true }
def WheelMovesUptoSaid : Prop := wheelMovesUptoRow.holds Try.pinned (OpenSpec.upto wheelMovesSpec)

/-- 'wharflaw3.WheelSorted', WHERE WHAT IT READS IS OF BULK AT MOST 1048576: true; the input reads as it did. -/
def wheelSortedUptoRow : OpenClaim := { program := "ytnachendenodkaa", sum := "d67b8e3d156bb97f166fa6ece304e6311446af4c531de4e45d8a4d2d56ebcea5", func := "wharf/wharflaw3.WheelSorted", spec := "wheelSorted", unfollowed := true, recurses := true, apart := false, narrowed := true }
def WheelSortedUptoSaid : Prop := wheelSortedUptoRow.holds Try.pinned (OpenSpec.upto wheelSortedSpec)

end Rows
end Go.Proofs.Ytnachendenodkaa
