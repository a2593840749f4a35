/-
  No cell of these rows narrows 'for every input' (looked for: loops, veiled, ifaces, maps, wideKeys, modest, calm, conditions, laid).
  DERIVED. THE GIVEN ROWS OF THIS SEAT. 6 by the template 'for every input the law returns true; each argument reads behind the call as it read before'; 0 by the template 'total and deterministic' (their statements: YtjljmohpgjiplaaTotals.lean).
  GIVEN WITH THE SEED: the statements are not yours to turn. If you find one false, say at which input.
  Laid BY PROGRAM, IN A SANDBOX (cutbox-rows.mjs): the forced cells as the released guide's own fill.sh prints them over the translation 4a5222938071ca3e… (all of the seat's roots in one cut). By AI agents, Wed Nov 11 2026. No macro, syntax, notation, axiom, sorry.
-/
import Derived.Test.YtjljmohpgjiplaaChecked
import GoSem.Claim
import GoSem.ClaimJoined
import GoSem.ClaimMapViews
import Derived.JoinedTies
import Derived.KernelRfl
namespace Go.Proofs.Ytjljmohpgjiplaa
/- THE CELL 'sum', in the pinned program and in every row, IS THE sha256 OF THE DUMP (.gsa) THAT YtjljmohpgjiplaaProg.lean LOADS. Nothing in Lean hashes anything: it is a label: what it is worth is what the hold of that sum in a sandbox is worth. -/
noncomputable def Try.pinned : Pinned := { name := "ytjljmohpgjiplaa", sum := "4a5222938071ca3e48f280d3d8625b1dbc044a7719e048f2d4de662c7bf7be93", checked := Try.checked }
namespace Rows
def none {H : Type} : Left H := { results := [], args := [] }

/-- 'wharflaw22.ResolveTells': WHATEVER THE INPUT: true; the input reads as it did. -/
def resolveTellsSpec : ChangeSpec := { name := "resolveTells", fn := fun _ => fun
  | [d1, d2, d3, d4] => { results := [.lit (.bool true)], args := [d1, d2, d3, d4] }
  | _ => none }
def resolveTellsRow : OpenClaim := { program := "ytjljmohpgjiplaa", sum := "4a5222938071ca3e48f280d3d8625b1dbc044a7719e048f2d4de662c7bf7be93", func := "wharf/wharflaw22.ResolveTells", spec := "resolveTells", inPlace := ["internal/bytealg.IndexByteString", "internal/bytealg.IndexString"], unfollowed := true, recurses := true, named := ["internal/bytealg.MaxLen"], apart := false }
def ResolveTellsSaid : Prop := resolveTellsRow.holds Try.pinned (OpenSpec.ofChange resolveTellsSpec)

/-- ITS FALSE NEIGHBOUR: 'it returns false'. Refute it at one input. -/
def resolveTellsWrong : ChangeSpec := { name := "resolveTells", fn := fun _ => fun
  | [d1, d2, d3, d4] => { results := [.lit (.bool false)], args := [d1, d2, d3, d4] }
  | _ => none }
def ResolveTellsWrongFalsely : Prop := resolveTellsRow.holds Try.pinned (OpenSpec.ofChange resolveTellsWrong)

/-- 'wharflaw22.ResolveGivesUp': WHATEVER THE INPUT: true; the input reads as it did. -/
def resolveGivesUpSpec : ChangeSpec := { name := "resolveGivesUp", fn := fun _ => fun
  | [d1, d2] => { results := [.lit (.bool true)], args := [d1, d2] }
  | _ => none }
def resolveGivesUpRow : OpenClaim := { program := "ytjljmohpgjiplaa", sum := "4a5222938071ca3e48f280d3d8625b1dbc044a7719e048f2d4de662c7bf7be93", func := "wharf/wharflaw22.ResolveGivesUp", spec := "resolveGivesUp", unfollowed := true, recurses := true, apart := false }
def ResolveGivesUpSaid : Prop := resolveGivesUpRow.holds Try.pinned (OpenSpec.ofChange resolveGivesUpSpec)

/-- ITS FALSE NEIGHBOUR: 'it returns false'. Refute it at one input. -/
def resolveGivesUpWrong : ChangeSpec := { name := "resolveGivesUp", fn := fun _ => fun
  | [d1, d2] => { results := [.lit (.bool false)], args := [d1, d2] }
  | _ => none }
def ResolveGivesUpWrongFalsely : Prop := resolveGivesUpRow.holds Try.pinned (OpenSpec.ofChange resolveGivesUpWrong)

/-- 'wharflaw22.ResolveChases': WHATEVER THE INPUT: true; the input reads as it did. -/
def resolveChasesSpec : ChangeSpec := { name := "resolveChases", fn := fun _ => fun
  | [d] => { results := [.lit (.bool true)], args := [d] }
  | _ => none }
def resolveChasesRow : OpenClaim := { program := "ytjljmohpgjiplaa", sum := "4a5222938071ca3e48f280d3d8625b1dbc044a7719e048f2d4de662c7bf7be93", func := "wharf/wharflaw22.ResolveChases", spec := "resolveChases", inPlace := ["internal/bytealg.IndexByteString", "internal/bytealg.IndexString"], unfollowed := true, recurses := true, named := ["internal/bytealg.MaxLen"], apart := false }
def ResolveChasesSaid : Prop := resolveChasesRow.holds Try.pinned (OpenSpec.ofChange resolveChasesSpec)

/-- ITS FALSE NEIGHBOUR: 'it returns false'. Refute it at one input. -/
def resolveChasesWrong : ChangeSpec := { name := "resolveChases", fn := fun _ => fun
  | [d] => { results := [.lit (.bool false)], args := [d] }
  | _ => none }
def ResolveChasesWrongFalsely : Prop := resolveChasesRow.holds Try.pinned (OpenSpec.ofChange resolveChasesWrong)

/-- 'wharflaw22.ResolveOfNothing': WHATEVER THE INPUT: true; the input reads as it did. -/
def resolveOfNothingSpec : ChangeSpec := { name := "resolveOfNothing", fn := fun _ => fun
  | [d1, d2, d3] => { results := [.lit (.bool true)], args := [d1, d2, d3] }
  | _ => none }
def resolveOfNothingRow : OpenClaim := { program := "ytjljmohpgjiplaa", sum := "4a5222938071ca3e48f280d3d8625b1dbc044a7719e048f2d4de662c7bf7be93", func := "wharf/wharflaw22.ResolveOfNothing", spec := "resolveOfNothing", inPlace := ["internal/bytealg.IndexByteString", "internal/bytealg.IndexString"], unfollowed := true, recurses := true, named := ["internal/bytealg.MaxLen"], apart := false }
def ResolveOfNothingSaid : Prop := resolveOfNothingRow.holds Try.pinned (OpenSpec.ofChange resolveOfNothingSpec)

/-- ITS FALSE NEIGHBOUR: 'it returns false'. Refute it at one input. -/
def resolveOfNothingWrong : ChangeSpec := { name := "resolveOfNothing", fn := fun _ => fun
  | [d1, d2, d3] => { results := [.lit (.bool false)], args := [d1, d2, d3] }
  | _ => none }
def ResolveOfNothingWrongFalsely : Prop := resolveOfNothingRow.holds Try.pinned (OpenSpec.ofChange resolveOfNothingWrong)

/-- 'wharflaw22.ResolveIDs': WHATEVER THE INPUT: true; the input reads as it did. -/
def resolveIDsSpec : ChangeSpec := { name := "resolveIDs", fn := fun _ => fun
  | [d1, d2] => { results := [.lit (.bool true)], args := [d1, d2] }
  | _ => none }
def resolveIDsRow : OpenClaim := { program := "ytjljmohpgjiplaa", sum := "4a5222938071ca3e48f280d3d8625b1dbc044a7719e048f2d4de662c7bf7be93", func := "wharf/wharflaw22.ResolveIDs", spec := "resolveIDs", inPlace := ["internal/bytealg.IndexByteString", "internal/bytealg.IndexString"], unfollowed := true, recurses := true, named := ["internal/bytealg.MaxLen"], apart := false }
def ResolveIDsSaid : Prop := resolveIDsRow.holds Try.pinned (OpenSpec.ofChange resolveIDsSpec)

/-- ITS FALSE NEIGHBOUR: 'it returns false'. Refute it at one input. -/
def resolveIDsWrong : ChangeSpec := { name := "resolveIDs", fn := fun _ => fun
  | [d1, d2] => { results := [.lit (.bool false)], args := [d1, d2] }
  | _ => none }
def ResolveIDsWrongFalsely : Prop := resolveIDsRow.holds Try.pinned (OpenSpec.ofChange resolveIDsWrong)

/-- 'wharflaw22.ResolveRefuses': WHATEVER THE INPUT: true; the input reads as it did. -/
def resolveRefusesSpec : ChangeSpec := { name := "resolveRefuses", fn := fun _ => fun
  | [d] => { results := [.lit (.bool true)], args := [d] }
  | _ => none }
def resolveRefusesRow : OpenClaim := { program := "ytjljmohpgjiplaa", sum := "4a5222938071ca3e48f280d3d8625b1dbc044a7719e048f2d4de662c7bf7be93", func := "wharf/wharflaw22.ResolveRefuses", spec := "resolveRefuses", inPlace := ["internal/bytealg.IndexByteString", "internal/bytealg.IndexString"], unfollowed := true, recurses := true, named := ["internal/bytealg.MaxLen"], apart := false }
def ResolveRefusesSaid : Prop := resolveRefusesRow.holds Try.pinned (OpenSpec.ofChange resolveRefusesSpec)

/-- ITS FALSE NEIGHBOUR: 'it returns false'. Refute it at one input. -/
def resolveRefusesWrong : ChangeSpec := { name := "resolveRefuses", fn := fun _ => fun
  | [d] => { results := [.lit (.bool false)], args := [d] }
  | _ => none }
def ResolveRefusesWrongFalsely : Prop := resolveRefusesRow.holds Try.pinned (OpenSpec.ofChange resolveRefusesWrong)

/- THE SECOND FORM. 'bulk': how many values and letters a reading holds, each counted each time it is reached (what is shared counts as often as it is met; a slice's spare places count too). A statement '..UptoSaid' is the law's where the arguments, and the package variables that the reading takes, are together of bulk at most 1048576: NARROWER than '..Said'. Prove '..Said' where nothing that the law and all that it calls make is longer than what came in: it says more and counts as full. Else prove '..UptoSaid'. A law counts once. -/
mutual
def uptoBulk {H : Type} : DataW H → Nat
  | .lit (.string bytes) => bytes.length + 1
  | .lit _ => 1
  | .nil => 1
  | .ptr d => uptoBulk d + 1
  | .slice elems spare => uptoBulkAll elems + uptoBulkAll spare + 1
  | .agg parts => uptoBulkAll parts + 1
  | .iface _ d => uptoBulk d + 1
  | .map entries => uptoBulkEntries entries + 1
  | .held _ => 1
def uptoBulkAll {H : Type} : List (DataW H) → Nat
  | [] => 0
  | d :: r => uptoBulk d + uptoBulkAll r
def uptoBulkEntries {H : Type} : List (Lit × DataW H) → Nat
  | [] => 0
  | x :: r => uptoBulkEntry x + uptoBulkEntries r
def uptoBulkEntry {H : Type} : Lit × DataW H → Nat
  | (.string bytes, d) => bytes.length + uptoBulk d + 1
  | (_, d) => uptoBulk d + 1
 end
def uptoSmall : (H : Type) → List (DataW H) → Bool := fun _ ds => decide (uptoBulkAll ds ≤ 1048576)
def OpenSpec.upto (s : _root_.Go.ChangeSpec) : _root_.Go.OpenSpec := { _root_.Go.OpenSpec.ofChange s with cond := some uptoSmall }

/-- 'wharflaw22.ResolveTells', WHERE WHAT IT READS IS OF BULK AT MOST 1048576: true; the input reads as it did. -/
def resolveTellsUptoRow : OpenClaim := { program := "ytjljmohpgjiplaa", sum := "4a5222938071ca3e48f280d3d8625b1dbc044a7719e048f2d4de662c7bf7be93", func := "wharf/wharflaw22.ResolveTells", spec := "resolveTells", inPlace := ["internal/bytealg.IndexByteString", "internal/bytealg.IndexString"], unfollowed := true, recurses := true, named := ["internal/bytealg.MaxLen"], apart := false, narrowed := true }
def ResolveTellsUptoSaid : Prop := resolveTellsUptoRow.holds Try.pinned (OpenSpec.upto resolveTellsSpec)

/-- 'wharflaw22.ResolveGivesUp', WHERE WHAT IT READS IS OF BULK AT MOST 1048576: true; the input reads as it did. -/
def resolveGivesUpUptoRow : OpenClaim := { program := "ytjljmohpgjiplaa", sum := "4a5222938071ca3e48f280d3d8625b1dbc044a7719e048f2d4de662c7bf7be93", func := "wharf/wharflaw22.ResolveGivesUp", spec := "resolveGivesUp", unfollowed := true, recurses := true, apart := false, narrowed := true }
def ResolveGivesUpUptoSaid : Prop := resolveGivesUpUptoRow.holds Try.pinned (OpenSpec.upto resolveGivesUpSpec)

/-- 'wharflaw22.ResolveChases', WHERE WHAT IT READS IS OF BULK AT MOST 1048576: true; the input reads as it did. -/
def resolveChasesUptoRow : OpenClaim := { program := "ytjljmohpgjiplaa", sum := "4a5222938071ca3e48f280d3d8625b1dbc044a7719e048f2d4de662c7bf7be93", func := "wharf/wharflaw22.ResolveChases", spec := "resolveChases", inPlace := ["internal/bytealg.IndexByteString", "internal/bytealg.IndexString"], unfollowed := true, recurses := true, named := ["internal/bytealg.MaxLen"], apart := false, narrowed := true }
def ResolveChasesUptoSaid : Prop := resolveChasesUptoRow.holds Try.pinned (OpenSpec.upto resolveChasesSpec)

/-- 'wharflaw22.ResolveOfNothing', WHERE WHAT IT READS IS OF BULK AT MOST 1048576: true; the input reads as it did. -/
def resolveOfNothingUptoRow : OpenClaim := { program := "ytjljmohpgjiplaa", sum := "4a5222938071ca3e48f280d3d8625b1dbc044a7719e048f2d4de662c7bf7be93", func := "wharf/wharflaw22.ResolveOfNothing", spec := "resolveOfNothing", inPlace := ["internal/bytealg.IndexByteString", "internal/bytealg.IndexString"], unfollowed := true, recurses := true, named := ["internal/bytealg.MaxLen"], apart := false, narrowed := true }
def ResolveOfNothingUptoSaid : Prop := resolveOfNothingUptoRow.holds Try.pinned (OpenSpec.upto resolveOfNothingSpec)

/-- 'wharflaw22.ResolveIDs', WHERE WHAT IT READS IS OF BULK AT MOST 1048576: true; the input reads as it did. -/
def resolveIDsUptoRow : OpenClaim := { program := "ytjljmohpgjiplaa", sum := "4a5222938071ca3e48f280d3d8625b1dbc044a7719e048f2d4de662c7bf7be93", func := "wharf/wharflaw22.ResolveIDs", spec := "resolveIDs", inPlace := ["internal/bytealg.IndexByteString", "internal/bytealg.IndexString"], unfollowed := true, recurses := true, named := ["internal/bytealg.MaxLen"], apart := false, narrowed := true }
def ResolveIDsUptoSaid : Prop := resolveIDsUptoRow.holds Try.pinned (OpenSpec.upto resolveIDsSpec)

/-- 'wharflaw22.ResolveRefuses', WHERE WHAT IT READS IS OF BULK AT MOST 1048576: true; the input reads as it did. -/
def resolveRefusesUptoRow : OpenClaim := { program := "ytjljmohpgjiplaa", sum := "4a5222938071ca3e48f280d3d8625b1dbc044a7719e048f2d4de662c7bf7be93", func := "wharf/wharflaw22.ResolveRefuses", spec := "resolveRefuses", inPlace := ["internal/bytealg.IndexByteString", "internal/bytealg.IndexString"], unfollowed := true, recurses := true, named := ["internal/bytealg.MaxLen"], apart := false, narrowed := true }
def ResolveRefusesUptoSaid : Prop := resolveRefusesUptoRow.holds Try.pinned (OpenSpec.upto resolveRefusesSpec)

end Rows
end Go.Proofs.Ytjljmohpgjiplaa
