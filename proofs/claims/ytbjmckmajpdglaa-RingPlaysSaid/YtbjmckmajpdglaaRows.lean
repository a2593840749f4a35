/-
  No cell of these rows narrows 'for every input' (looked for: loops, veiled, ifaces, maps, wideKeys, modest, calm, conditions, laid).
  DERIVED. THE GIVEN ROWS OF THIS SEAT. 5 by the template 'for every input the law returns true; each argument reads behind the call as it read before'; 0 by the template 'total and deterministic' (their statements: YtbjmckmajpdglaaTotals.lean).
  GIVEN WITH THE SEED: the statements are not yours to turn. If you find one false, say at which input.
  Laid BY PROGRAM, IN A SANDBOX (cutbox-rows.mjs): the forced cells as the released guide's own fill.sh prints them over the translation b334cb4df9053ec5… (all of the seat's roots in one cut). By AI agents, Wed Nov 11 2026. No macro, syntax, notation, axiom, sorry.
-/
import Derived.Test.YtbjmckmajpdglaaChecked
import GoSem.Claim
import GoSem.ClaimJoined
import GoSem.ClaimMapViews
import Derived.JoinedTies
import Derived.KernelRfl
namespace Go.Proofs.Ytbjmckmajpdglaa
/- THE CELL 'sum', in the pinned program and in every row, IS THE sha256 OF THE DUMP (.gsa) THAT YtbjmckmajpdglaaProg.lean LOADS. Nothing in Lean hashes anything: it is a label: what it is worth is what the hold of that sum in a sandbox is worth. -/
noncomputable def Try.pinned : Pinned := { name := "ytbjmckmajpdglaa", sum := "b334cb4df9053ec5ab453643d461aa71869e68691bf95e671400e0bee38b3338", checked := Try.checked }
namespace Rows
def none {H : Type} : Left H := { results := [], args := [] }

/-- 'wharflaw13.RingPlays': WHATEVER THE INPUT: true; the input reads as it did. -/
def ringPlaysSpec : ChangeSpec := { name := "ringPlays", fn := fun _ => fun
  | [d1, d2] => { results := [.lit (.bool true)], args := [d1, d2] }
  | _ => none }
def ringPlaysRow : OpenClaim := { program := "ytbjmckmajpdglaa", sum := "b334cb4df9053ec5ab453643d461aa71869e68691bf95e671400e0bee38b3338", func := "wharf/wharflaw13.RingPlays", spec := "ringPlays", inPlace := ["slices.overlaps[wharf/ring.run]"], unfollowed := true, recurses := true, apart := false }
def RingPlaysSaid : Prop := ringPlaysRow.holds Try.pinned (OpenSpec.ofChange ringPlaysSpec)

/-- ITS FALSE NEIGHBOUR: 'it returns false'. Refute it at one input. -/
def ringPlaysWrong : ChangeSpec := { name := "ringPlays", fn := fun _ => fun
  | [d1, d2] => { results := [.lit (.bool false)], args := [d1, d2] }
  | _ => none }
def RingPlaysWrongFalsely : Prop := ringPlaysRow.holds Try.pinned (OpenSpec.ofChange ringPlaysWrong)

/-- 'wharflaw13.RingRow': WHATEVER THE INPUT: true; the input reads as it did. -/
def ringRowSpec : ChangeSpec := { name := "ringRow", fn := fun _ => fun
  | [d1, d2, d3] => { results := [.lit (.bool true)], args := [d1, d2, d3] }
  | _ => none }
def ringRowRow : OpenClaim := { program := "ytbjmckmajpdglaa", sum := "b334cb4df9053ec5ab453643d461aa71869e68691bf95e671400e0bee38b3338", func := "wharf/wharflaw13.RingRow", spec := "ringRow", inPlace := ["slices.overlaps[wharf/ring.run]"], unfollowed := true, recurses := true, apart := false }
def RingRowSaid : Prop := ringRowRow.holds Try.pinned (OpenSpec.ofChange ringRowSpec)

/-- ITS FALSE NEIGHBOUR: 'it returns false'. Refute it at one input. -/
def ringRowWrong : ChangeSpec := { name := "ringRow", fn := fun _ => fun
  | [d1, d2, d3] => { results := [.lit (.bool false)], args := [d1, d2, d3] }
  | _ => none }
def RingRowWrongFalsely : Prop := ringRowRow.holds Try.pinned (OpenSpec.ofChange ringRowWrong)

/-- 'wharflaw13.PiecesPlay': WHATEVER THE INPUT: true; the input reads as it did. -/
def piecesPlaySpec : ChangeSpec := { name := "piecesPlay", fn := fun _ => fun
  | [d] => { results := [.lit (.bool true)], args := [d] }
  | _ => none }
def piecesPlayRow : OpenClaim := { program := "ytbjmckmajpdglaa", sum := "b334cb4df9053ec5ab453643d461aa71869e68691bf95e671400e0bee38b3338", func := "wharf/wharflaw13.PiecesPlay", spec := "piecesPlay", inPlace := ["slices.overlaps[wharf/ring.run]"], unfollowed := true, recurses := true, apart := false }
def PiecesPlaySaid : Prop := piecesPlayRow.holds Try.pinned (OpenSpec.ofChange piecesPlaySpec)

/-- ITS FALSE NEIGHBOUR: 'it returns false'. Refute it at one input. -/
def piecesPlayWrong : ChangeSpec := { name := "piecesPlay", fn := fun _ => fun
  | [d] => { results := [.lit (.bool false)], args := [d] }
  | _ => none }
def PiecesPlayWrongFalsely : Prop := piecesPlayRow.holds Try.pinned (OpenSpec.ofChange piecesPlayWrong)

/-- 'wharflaw13.PiecesRow': WHATEVER THE INPUT: true; the input reads as it did. -/
def piecesRowSpec : ChangeSpec := { name := "piecesRow", fn := fun _ => fun
  | [d1, d2, d3] => { results := [.lit (.bool true)], args := [d1, d2, d3] }
  | _ => none }
def piecesRowRow : OpenClaim := { program := "ytbjmckmajpdglaa", sum := "b334cb4df9053ec5ab453643d461aa71869e68691bf95e671400e0bee38b3338", func := "wharf/wharflaw13.PiecesRow", spec := "piecesRow", inPlace := ["slices.overlaps[wharf/ring.run]"], unfollowed := true, recurses := true, apart := false }
def PiecesRowSaid : Prop := piecesRowRow.holds Try.pinned (OpenSpec.ofChange piecesRowSpec)

/-- ITS FALSE NEIGHBOUR: 'it returns false'. Refute it at one input. -/
def piecesRowWrong : ChangeSpec := { name := "piecesRow", fn := fun _ => fun
  | [d1, d2, d3] => { results := [.lit (.bool false)], args := [d1, d2, d3] }
  | _ => none }
def PiecesRowWrongFalsely : Prop := piecesRowRow.holds Try.pinned (OpenSpec.ofChange piecesRowWrong)

/-- 'wharflaw13.RingOfNothing': WHATEVER THE INPUT: true; the input reads as it did. -/
def ringOfNothingSpec : ChangeSpec := { name := "ringOfNothing", fn := fun _ => fun
  | [d1, d2] => { results := [.lit (.bool true)], args := [d1, d2] }
  | _ => none }
def ringOfNothingRow : OpenClaim := { program := "ytbjmckmajpdglaa", sum := "b334cb4df9053ec5ab453643d461aa71869e68691bf95e671400e0bee38b3338", func := "wharf/wharflaw13.RingOfNothing", spec := "ringOfNothing", inPlace := ["slices.overlaps[wharf/ring.run]"], unfollowed := true, recurses := true, apart := false }
def RingOfNothingSaid : Prop := ringOfNothingRow.holds Try.pinned (OpenSpec.ofChange ringOfNothingSpec)

/-- ITS FALSE NEIGHBOUR: 'it returns false'. Refute it at one input. -/
def ringOfNothingWrong : ChangeSpec := { name := "ringOfNothing", fn := fun _ => fun
  | [d1, d2] => { results := [.lit (.bool false)], args := [d1, d2] }
  | _ => none }
def RingOfNothingWrongFalsely : Prop := ringOfNothingRow.holds Try.pinned (OpenSpec.ofChange ringOfNothingWrong)

/- THE SECOND FORM. 'bulk': how many values and letters a reading holds, each counted each time it is reached (what is shared counts as often as it is met; a slice's spare places count too). A statement '..UptoSaid' is the law's where the arguments, and the package variables that the reading takes, are together of bulk at most 1048576: NARROWER than '..Said'. Prove '..Said' where nothing that the law and all that it calls make is longer than what came in: it says more and counts as full. Else prove '..UptoSaid'. A law counts once. -/
mutual
def uptoBulk {H : Type} : DataW H → Nat
  | .lit (.string bytes) => bytes.length + 1
  | .lit _ => 1
  | .nil => 1
  | .ptr d => uptoBulk d + 1
  | .slice elems spare => uptoBulkAll elems + uptoBulkAll spare + 1
  | .agg parts => uptoBulkAll parts + 1
  | .iface _ d => uptoBulk d + 1
  | .map entries => uptoBulkEntries entries + 1
  | .held _ => 1
def uptoBulkAll {H : Type} : List (DataW H) → Nat
  | [] => 0
  | d :: r => uptoBulk d + uptoBulkAll r
def uptoBulkEntries {H : Type} : List (Lit × DataW H) → Nat
  | [] => 0
  | x :: r => uptoBulkEntry x + uptoBulkEntries r
def uptoBulkEntry {H : Type} : Lit × DataW H → Nat
  | (.string bytes, d) => bytes.length + uptoBulk d + 1
  | (_, d) => uptoBulk d + 1
 end
def uptoSmall : (H : Type) → List (DataW H) → Bool := fun _ ds => decide (uptoBulkAll ds ≤ 1048576)
def OpenSpec.upto (s : _root_.Go.ChangeSpec) : _root_.Go.OpenSpec := { _root_.Go.OpenSpec.ofChange s with cond := some uptoSmall }

/-- 'wharflaw13.RingPlays', WHERE WHAT IT READS IS OF BULK AT MOST 1048576: true; the input reads as it did. -/
def ringPlaysUptoRow : OpenClaim := { program := "ytbjmckmajpdglaa", sum := "b334cb4df9053ec5ab453643d461aa71869e68691bf95e671400e0bee38b3338", func := "wharf/wharflaw13.RingPlays", spec := "ringPlays", inPlace := ["slices.overlaps[wharf/ring.run]"], unfollowed := true, recurses := true, apart := false, narrowed := true }
def RingPlaysUptoSaid : Prop := ringPlaysUptoRow.holds Try.pinned (OpenSpec.upto ringPlaysSpec)

/-- 'wharflaw13.RingRow', WHERE WHAT IT READS IS OF BULK AT MOST 1048576: true; the input reads as it did. -/
def ringRowUptoRow : OpenClaim := { program := "ytbjmckmajpdglaa", sum := "b334cb4df9053ec5ab453643d461aa71869e68691bf95e671400e0bee38b3338", func := "wharf/wharflaw13.RingRow", spec := "ringRow", inPlace := ["slices.overlaps[wharf/ring.run]"], unfollowed := true, recurses := true, apart := false, narrowed := true }
def RingRowUptoSaid : Prop := ringRowUptoRow.holds Try.pinned (OpenSpec.upto ringRowSpec)

/-- 'wharflaw13.PiecesPlay', WHERE WHAT IT READS IS OF BULK AT MOST 1048576: true; the input reads as it did. -/
def piecesPlayUptoRow : OpenClaim := { program := "ytbjmckmajpdglaa", sum := "b334cb4df9053ec5ab453643d461aa71869e68691bf95e671400e0bee38b3338", func := "wharf/wharflaw13.PiecesPlay", spec := "piecesPlay", inPlace := ["slices.overlaps[wharf/ring.run]"], unfollowed := true, recurses := true, apart := false, narrowed := true }
def PiecesPlayUptoSaid : Prop := piecesPlayUptoRow.holds Try.pinned (OpenSpec.upto piecesPlaySpec)

/-- 'wharflaw13.PiecesRow', WHERE WHAT IT READS IS OF BULK AT MOST 1048576: true; the input reads as it did. -/
def piecesRowUptoRow : OpenClaim := { program := "ytbjmckmajpdglaa", sum := "b334cb4df9053ec5ab453643d461aa71869e68691bf95e671400e0bee38b3338", func := "wharf/wharflaw13.PiecesRow", spec := "piecesRow", inPlace := ["slices.overlaps[wharf/ring.run]"], unfollowed := true, recurses := true, apart := false, narrowed := true }
def PiecesRowUptoSaid : Prop := piecesRowUptoRow.holds Try.pinned (OpenSpec.upto piecesRowSpec)

/-- 'wharflaw13.RingOfNothing', WHERE WHAT IT READS IS OF BULK AT MOST 1048576: true; the input reads as it did. -/
def ringOfNothingUptoRow : OpenClaim := { program := "ytbjmckmajpdglaa", sum := "b334cb4df9053ec5ab453643d461aa71869e68691bf95e671400e0bee38b3338", func := "wharf/wharflaw13.RingOfNothing", spec := "ringOfNothing", inPlace := ["slices.overlaps[wharf/ring.run]"], unfollowed := true, recurses := true, apart := false, narrowed := true }
def RingOfNothingUptoSaid : Prop := ringOfNothingUptoRow.holds Try.pinned (OpenSpec.upto ringOfNothingSpec)

end Rows
end Go.Proofs.Ytbjmckmajpdglaa
