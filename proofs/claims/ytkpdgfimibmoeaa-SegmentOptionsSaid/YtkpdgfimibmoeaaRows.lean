/-
  No cell of these rows narrows 'for every input' (looked for: loops, veiled, ifaces, maps, wideKeys, modest, calm, conditions, laid).
  DERIVED. THE GIVEN ROWS OF THIS SEAT. 7 by the template 'for every input the law returns true; each argument reads behind the call as it read before'; 0 by the template 'total and deterministic' (their statements: YtkpdgfimibmoeaaTotals.lean).
  GIVEN WITH THE SEED: the statements are not yours to turn. If you find one false, say at which input.
  Laid BY PROGRAM, IN A SANDBOX (cutbox-rows.mjs): the forced cells as the released guide's own fill.sh prints them over the translation ccec8642f461e35e… (all of the seat's roots in one cut). By AI agents, Wed Nov 11 2026. No macro, syntax, notation, axiom, sorry.
-/
import Derived.Test.YtkpdgfimibmoeaaChecked
import GoSem.Claim
import GoSem.ClaimJoined
import GoSem.ClaimMapViews
import Derived.JoinedTies
import Derived.KernelRfl
namespace Go.Proofs.Ytkpdgfimibmoeaa
/- THE CELL 'sum', in the pinned program and in every row, IS THE sha256 OF THE DUMP (.gsa) THAT YtkpdgfimibmoeaaProg.lean LOADS. Nothing in Lean hashes anything: it is a label: what it is worth is what the hold of that sum in a sandbox is worth. -/
noncomputable def Try.pinned : Pinned := { name := "ytkpdgfimibmoeaa", sum := "ccec8642f461e35e5ad1933fb67ad6fc0c97504c4b6afd2d6116c00d9a062cff", checked := Try.checked }
namespace Rows
def none {H : Type} : Left H := { results := [], args := [] }

/-- 'wharflaw14.SegmentEncodes': WHATEVER THE INPUT: true; the input reads as it did. -/
def segmentEncodesSpec : ChangeSpec := { name := "segmentEncodes", fn := fun _ => fun
  | [d] => { results := [.lit (.bool true)], args := [d] }
  | _ => none }
def segmentEncodesRow : OpenClaim := { program := "ytkpdgfimibmoeaa", sum := "ccec8642f461e35e5ad1933fb67ad6fc0c97504c4b6afd2d6116c00d9a062cff", func := "wharf/wharflaw14.SegmentEncodes", spec := "segmentEncodes", apart := false }
def SegmentEncodesSaid : Prop := segmentEncodesRow.holds Try.pinned (OpenSpec.ofChange segmentEncodesSpec)

/-- ITS FALSE NEIGHBOUR: 'it returns false'. Refute it at one input. -/
def segmentEncodesWrong : ChangeSpec := { name := "segmentEncodes", fn := fun _ => fun
  | [d] => { results := [.lit (.bool false)], args := [d] }
  | _ => none }
def SegmentEncodesWrongFalsely : Prop := segmentEncodesRow.holds Try.pinned (OpenSpec.ofChange segmentEncodesWrong)

/-- 'wharflaw14.SegmentDecodes': WHATEVER THE INPUT: true; the input reads as it did. -/
def segmentDecodesSpec : ChangeSpec := { name := "segmentDecodes", fn := fun _ => fun
  | [d1, d2, d3] => { results := [.lit (.bool true)], args := [d1, d2, d3] }
  | _ => none }
def segmentDecodesRow : OpenClaim := { program := "ytkpdgfimibmoeaa", sum := "ccec8642f461e35e5ad1933fb67ad6fc0c97504c4b6afd2d6116c00d9a062cff", func := "wharf/wharflaw14.SegmentDecodes", spec := "segmentDecodes", unfollowed := true, recurses := true, apart := false }
def SegmentDecodesSaid : Prop := segmentDecodesRow.holds Try.pinned (OpenSpec.ofChange segmentDecodesSpec)

/-- ITS FALSE NEIGHBOUR: 'it returns false'. Refute it at one input. -/
def segmentDecodesWrong : ChangeSpec := { name := "segmentDecodes", fn := fun _ => fun
  | [d1, d2, d3] => { results := [.lit (.bool false)], args := [d1, d2, d3] }
  | _ => none }
def SegmentDecodesWrongFalsely : Prop := segmentDecodesRow.holds Try.pinned (OpenSpec.ofChange segmentDecodesWrong)

/-- 'wharflaw14.SegmentOptions': WHATEVER THE INPUT: true; the input reads as it did. -/
def segmentOptionsSpec : ChangeSpec := { name := "segmentOptions", fn := fun _ => fun
  | [d1, d2] => { results := [.lit (.bool true)], args := [d1, d2] }
  | _ => none }
def segmentOptionsRow : OpenClaim := { program := "ytkpdgfimibmoeaa", sum := "ccec8642f461e35e5ad1933fb67ad6fc0c97504c4b6afd2d6116c00d9a062cff", func := "wharf/wharflaw14.SegmentOptions", spec := "segmentOptions", unfollowed := true, recurses := true, apart := false }
def SegmentOptionsSaid : Prop := segmentOptionsRow.holds Try.pinned (OpenSpec.ofChange segmentOptionsSpec)

/-- ITS FALSE NEIGHBOUR: 'it returns false'. Refute it at one input. -/
def segmentOptionsWrong : ChangeSpec := { name := "segmentOptions", fn := fun _ => fun
  | [d1, d2] => { results := [.lit (.bool false)], args := [d1, d2] }
  | _ => none }
def SegmentOptionsWrongFalsely : Prop := segmentOptionsRow.holds Try.pinned (OpenSpec.ofChange segmentOptionsWrong)

/-- 'wharflaw14.SegmentBack': WHATEVER THE INPUT: true; the input reads as it did. -/
def segmentBackSpec : ChangeSpec := { name := "segmentBack", fn := fun _ => fun
  | [d1, d2] => { results := [.lit (.bool true)], args := [d1, d2] }
  | _ => none }
def segmentBackRow : OpenClaim := { program := "ytkpdgfimibmoeaa", sum := "ccec8642f461e35e5ad1933fb67ad6fc0c97504c4b6afd2d6116c00d9a062cff", func := "wharf/wharflaw14.SegmentBack", spec := "segmentBack", unfollowed := true, recurses := true, apart := false }
def SegmentBackSaid : Prop := segmentBackRow.holds Try.pinned (OpenSpec.ofChange segmentBackSpec)

/-- ITS FALSE NEIGHBOUR: 'it returns false'. Refute it at one input. -/
def segmentBackWrong : ChangeSpec := { name := "segmentBack", fn := fun _ => fun
  | [d1, d2] => { results := [.lit (.bool false)], args := [d1, d2] }
  | _ => none }
def SegmentBackWrongFalsely : Prop := segmentBackRow.holds Try.pinned (OpenSpec.ofChange segmentBackWrong)

/-- 'wharflaw14.SegmentTurned': WHATEVER THE INPUT: true; the input reads as it did. -/
def segmentTurnedSpec : ChangeSpec := { name := "segmentTurned", fn := fun _ => fun
  | [d1, d2, d3] => { results := [.lit (.bool true)], args := [d1, d2, d3] }
  | _ => none }
def segmentTurnedRow : OpenClaim := { program := "ytkpdgfimibmoeaa", sum := "ccec8642f461e35e5ad1933fb67ad6fc0c97504c4b6afd2d6116c00d9a062cff", func := "wharf/wharflaw14.SegmentTurned", spec := "segmentTurned", unfollowed := true, recurses := true, apart := false }
def SegmentTurnedSaid : Prop := segmentTurnedRow.holds Try.pinned (OpenSpec.ofChange segmentTurnedSpec)

/-- ITS FALSE NEIGHBOUR: 'it returns false'. Refute it at one input. -/
def segmentTurnedWrong : ChangeSpec := { name := "segmentTurned", fn := fun _ => fun
  | [d1, d2, d3] => { results := [.lit (.bool false)], args := [d1, d2, d3] }
  | _ => none }
def SegmentTurnedWrongFalsely : Prop := segmentTurnedRow.holds Try.pinned (OpenSpec.ofChange segmentTurnedWrong)

/-- 'wharflaw14.SegmentResets': WHATEVER THE INPUT: true; the input reads as it did. -/
def segmentResetsSpec : ChangeSpec := { name := "segmentResets", fn := fun _ => fun
  | [d] => { results := [.lit (.bool true)], args := [d] }
  | _ => none }
def segmentResetsRow : OpenClaim := { program := "ytkpdgfimibmoeaa", sum := "ccec8642f461e35e5ad1933fb67ad6fc0c97504c4b6afd2d6116c00d9a062cff", func := "wharf/wharflaw14.SegmentResets", spec := "segmentResets", apart := false }
def SegmentResetsSaid : Prop := segmentResetsRow.holds Try.pinned (OpenSpec.ofChange segmentResetsSpec)

/-- ITS FALSE NEIGHBOUR: 'it returns false'. Refute it at one input. -/
def segmentResetsWrong : ChangeSpec := { name := "segmentResets", fn := fun _ => fun
  | [d] => { results := [.lit (.bool false)], args := [d] }
  | _ => none }
def SegmentResetsWrongFalsely : Prop := segmentResetsRow.holds Try.pinned (OpenSpec.ofChange segmentResetsWrong)

/-- 'wharflaw14.SegmentPlaces': WHATEVER THE INPUT: true; the input reads as it did. -/
def segmentPlacesSpec : ChangeSpec := { name := "segmentPlaces", fn := fun _ => fun
  | [d] => { results := [.lit (.bool true)], args := [d] }
  | _ => none }
def segmentPlacesRow : OpenClaim := { program := "ytkpdgfimibmoeaa", sum := "ccec8642f461e35e5ad1933fb67ad6fc0c97504c4b6afd2d6116c00d9a062cff", func := "wharf/wharflaw14.SegmentPlaces", spec := "segmentPlaces", unfollowed := true, recurses := true, apart := false }
def SegmentPlacesSaid : Prop := segmentPlacesRow.holds Try.pinned (OpenSpec.ofChange segmentPlacesSpec)

/-- ITS FALSE NEIGHBOUR: 'it returns false'. Refute it at one input. -/
def segmentPlacesWrong : ChangeSpec := { name := "segmentPlaces", fn := fun _ => fun
  | [d] => { results := [.lit (.bool false)], args := [d] }
  | _ => none }
def SegmentPlacesWrongFalsely : Prop := segmentPlacesRow.holds Try.pinned (OpenSpec.ofChange segmentPlacesWrong)

/- THE SECOND FORM. 'bulk': how many values and letters a reading holds, each counted each time it is reached (what is shared counts as often as it is met; a slice's spare places count too). A statement '..UptoSaid' is the law's where the arguments, and the package variables that the reading takes, are together of bulk at most 1048576: NARROWER than '..Said'. Prove '..Said' where nothing that the law and all that it calls make is longer than what came in: it says more and counts as full. Else prove '..UptoSaid'. A law counts once. -/
mutual
def uptoBulk {H : Type} : DataW H → Nat
  | .lit (.string bytes) => bytes.length + 1
  | .lit _ => 1
  | .nil => 1
  | .ptr d => uptoBulk d + 1
  | .slice elems spare => uptoBulkAll elems + uptoBulkAll spare + 1
  | .agg parts => uptoBulkAll parts + 1
  | .iface _ d => uptoBulk d + 1
  | .map entries => uptoBulkEntries entries + 1
  | .held _ => 1
def uptoBulkAll {H : Type} : List (DataW H) → Nat
  | [] => 0
  | d :: r => uptoBulk d + uptoBulkAll r
def uptoBulkEntries {H : Type} : List (Lit × DataW H) → Nat
  | [] => 0
  | x :: r => uptoBulkEntry x + uptoBulkEntries r
def uptoBulkEntry {H : Type} : Lit × DataW H → Nat
  | (.string bytes, d) => bytes.length + uptoBulk d + 1
  | (_, d) => uptoBulk d + 1
 end
def uptoSmall : (H : Type) → List (DataW H) → Bool := fun _ ds => decide (uptoBulkAll ds ≤ 1048576)
def OpenSpec.upto (s : _root_.Go.ChangeSpec) : _root_.Go.OpenSpec := { _root_.Go.OpenSpec.ofChange s with cond := some uptoSmall }

/-- 'wharflaw14.SegmentEncodes', WHERE WHAT IT READS IS OF BULK AT MOST 1048576: true; the input reads as it did. -/
def segmentEncodesUptoRow : OpenClaim := { program := "ytkpdgfimibmoeaa", sum := "ccec8642f461e35e5ad1933fb67ad6fc0c97504c4b6afd2d6116c00d9a062cff", func := "wharf/wharflaw14.SegmentEncodes", spec := "segmentEncodes", apart := false, narrowed := true }
def SegmentEncodesUptoSaid : Prop := segmentEncodesUptoRow.holds Try.pinned (OpenSpec.upto segmentEncodesSpec)

/-- 'wharflaw14.SegmentDecodes', WHERE WHAT IT READS IS OF BULK AT MOST 1048576: true; the input reads as it did. -/
def segmentDecodesUptoRow : OpenClaim := { program := "ytkpdgfimibmoeaa", sum := "ccec8642f461e35e5ad1933fb67ad6fc0c97504c4b6afd2d6116c00d9a062cff", func := "wharf/wharflaw14.SegmentDecodes", spec := "segmentDecodes", unfollowed := true, recurses := true, apart := false, narrowed := true }
def SegmentDecodesUptoSaid : Prop := segmentDecodesUptoRow.holds Try.pinned (OpenSpec.upto segmentDecodesSpec)

/-- 'wharflaw14.SegmentOptions', WHERE WHAT IT READS IS OF BULK AT MOST 1048576: true; the input reads as it did. -/
def segmentOptionsUptoRow : OpenClaim := { program := "ytkpdgfimibmoeaa", sum := "ccec8642f461e35e5ad1933fb67ad6fc0c97504c4b6afd2d6116c00d9a062cff", func := "wharf/wharflaw14.SegmentOptions", spec := "segmentOptions", unfollowed := true, recurses := true, apart := false, narrowed := true }
def SegmentOptionsUptoSaid : Prop := segmentOptionsUptoRow.holds Try.pinned (OpenSpec.upto segmentOptionsSpec)

/-- 'wharflaw14.SegmentBack', WHERE WHAT IT READS IS OF BULK AT MOST 1048576: true; the input reads as it did. -/
def segmentBackUptoRow : OpenClaim := { program := "ytkpdgfimibmoeaa", sum := "ccec8642f461e35e5ad1933fb67ad6fc0c97504c4b6afd2d6116c00d9a062cff", func := "wharf/wharflaw14.SegmentBack", spec := "segmentBack", unfollowed := true, recurses := true, apart := false, narrowed := true }
def SegmentBackUptoSaid : Prop := segmentBackUptoRow.holds Try.pinned (OpenSpec.upto segmentBackSpec)

/-- 'wharflaw14.SegmentTurned', WHERE WHAT IT READS IS OF BULK AT MOST 1048576: true; the input reads as it did. -/
def segmentTurnedUptoRow : OpenClaim := { program := "ytkpdgfimibmoeaa", sum := "ccec8642f461e35e5ad1933fb67ad6fc0c97504c4b6afd2d6116c00d9a062cff", func := "wharf/wharflaw14.SegmentTurned", spec := "segmentTurned", unfollowed := true, recurses := true, apart := false, narrowed := true }
def SegmentTurnedUptoSaid : Prop := segmentTurnedUptoRow.holds Try.pinned (OpenSpec.upto segmentTurnedSpec)

/-- 'wharflaw14.SegmentResets', WHERE WHAT IT READS IS OF BULK AT MOST 1048576: true; the input reads as it did. -/
def segmentResetsUptoRow : OpenClaim := { program := "ytkpdgfimibmoeaa", sum := "ccec8642f461e35e5ad1933fb67ad6fc0c97504c4b6afd2d6116c00d9a062cff", func := "wharf/wharflaw14.SegmentResets", spec := "segmentResets", apart := false, narrowed := true }
def SegmentResetsUptoSaid : Prop := segmentResetsUptoRow.holds Try.pinned (OpenSpec.upto segmentResetsSpec)

/-- 'wharflaw14.SegmentPlaces', WHERE WHAT IT READS IS OF BULK AT MOST 1048576: true; the input reads as it did. -/
def segmentPlacesUptoRow : OpenClaim := { program := "ytkpdgfimibmoeaa", sum := "ccec8642f461e35e5ad1933fb67ad6fc0c97504c4b6afd2d6116c00d9a062cff", func := "wharf/wharflaw14.SegmentPlaces", spec := "segmentPlaces", unfollowed := true, recurses := true, apart := false, narrowed := true }
def SegmentPlacesUptoSaid : Prop := segmentPlacesUptoRow.holds Try.pinned (OpenSpec.upto segmentPlacesSpec)

end Rows
end Go.Proofs.Ytkpdgfimibmoeaa
