/-
  No cell of these rows narrows 'for every input' (looked for: loops, veiled, ifaces, maps, wideKeys, modest, calm, conditions, laid).
  DERIVED. THE GIVEN ROWS OF THIS SEAT. 2 by the template 'for every input the law returns true; each argument reads behind the call as it read before'; 0 by the template 'total and deterministic' (their statements: YtlnepkffefeepaaGreatTotals.lean).
  GIVEN WITH THE SEED: the statements are not yours to turn. If you find one false, say at which input.
  Laid BY PROGRAM, IN A SANDBOX (cutbox-rows.mjs): the forced cells as the released guide's own fill.sh prints them over the translation ff0d34f9ad3ef598… (all of the seat's roots in one cut). By AI agents, Wed Nov 11 2026. No macro, syntax, notation, axiom, sorry.
-/
import Derived.Test.YtlnepkffefeepaaGreatChecked
import GoSem.Claim
import GoSem.ClaimJoined
import GoSem.ClaimMapViews
import Derived.JoinedTies
import Derived.KernelRfl
namespace Go.Proofs.YtlnepkffefeepaaGreat
/- THE CELL 'sum', in the pinned program and in every row, IS THE sha256 OF THE DUMP (.gsa) THAT YtlnepkffefeepaaGreatProg.lean LOADS. Nothing in Lean hashes anything: it is a label: what it is worth is what the hold of that sum in a sandbox is worth. -/
noncomputable def Tryz.pinned : Pinned := { name := "ytlnepkffefeepaagreat", sum := "ff0d34f9ad3ef59837602f9fa8ee0e4cc3aa929542c71efef1d79110756b7828", checked := Tryz.checked }
namespace Rows
def none {H : Type} : Left H := { results := [], args := [] }

/-- 'wharflaw17.ConnCross': WHATEVER THE INPUT: true; the input reads as it did. -/
def connCrossSpec : ChangeSpec := { name := "connCross", fn := fun _ => fun
  | [d1, d2] => { results := [.lit (.bool true)], args := [d1, d2] }
  | _ => none }
def connCrossRow : OpenClaim := { program := "ytlnepkffefeepaagreat", sum := "ff0d34f9ad3ef59837602f9fa8ee0e4cc3aa929542c71efef1d79110756b7828", func := "wharf/wharflaw17.ConnCross", spec := "connCross", inPlace := ["slices.overlaps[wharf/ring.run]"], unfollowed := true, recurses := true, apart := false }
def ConnCrossSaid : Prop := connCrossRow.holds Tryz.pinned (OpenSpec.ofChange connCrossSpec)

/-- ITS FALSE NEIGHBOUR: 'it returns false'. Refute it at one input. -/
def connCrossWrong : ChangeSpec := { name := "connCross", fn := fun _ => fun
  | [d1, d2] => { results := [.lit (.bool false)], args := [d1, d2] }
  | _ => none }
def ConnCrossWrongFalsely : Prop := connCrossRow.holds Tryz.pinned (OpenSpec.ofChange connCrossWrong)

/-- 'wharflaw17.ConnResets': WHATEVER THE INPUT: true; the input reads as it did. -/
def connResetsSpec : ChangeSpec := { name := "connResets", fn := fun _ => fun
  | [d] => { results := [.lit (.bool true)], args := [d] }
  | _ => none }
def connResetsRow : OpenClaim := { program := "ytlnepkffefeepaagreat", sum := "ff0d34f9ad3ef59837602f9fa8ee0e4cc3aa929542c71efef1d79110756b7828", func := "wharf/wharflaw17.ConnResets", spec := "connResets", inPlace := ["slices.overlaps[wharf/ring.run]"], unfollowed := true, recurses := true, apart := false }
def ConnResetsSaid : Prop := connResetsRow.holds Tryz.pinned (OpenSpec.ofChange connResetsSpec)

/-- ITS FALSE NEIGHBOUR: 'it returns false'. Refute it at one input. -/
def connResetsWrong : ChangeSpec := { name := "connResets", fn := fun _ => fun
  | [d] => { results := [.lit (.bool false)], args := [d] }
  | _ => none }
def ConnResetsWrongFalsely : Prop := connResetsRow.holds Tryz.pinned (OpenSpec.ofChange connResetsWrong)

/- THE SECOND FORM. 'bulk': how many values and letters a reading holds, each counted each time it is reached (what is shared counts as often as it is met; a slice's spare places count too). A statement '..UptoSaid' is the law's where the arguments, and the package variables that the reading takes, are together of bulk at most 1048576: NARROWER than '..Said'. Prove '..Said' where nothing that the law and all that it calls make is longer than what came in: it says more and counts as full. Else prove '..UptoSaid'. A law counts once. -/
mutual
def uptoBulk {H : Type} : DataW H → Nat
  | .lit (.string bytes) => bytes.length + 1
  | .lit _ => 1
  | .nil => 1
  | .ptr d => uptoBulk d + 1
  | .slice elems spare => uptoBulkAll elems + uptoBulkAll spare + 1
  | .agg parts => uptoBulkAll parts + 1
  | .iface _ d => uptoBulk d + 1
  | .map entries => uptoBulkEntries entries + 1
  | .held _ => 1
def uptoBulkAll {H : Type} : List (DataW H) → Nat
  | [] => 0
  | d :: r => uptoBulk d + uptoBulkAll r
def uptoBulkEntries {H : Type} : List (Lit × DataW H) → Nat
  | [] => 0
  | x :: r => uptoBulkEntry x + uptoBulkEntries r
def uptoBulkEntry {H : Type} : Lit × DataW H → Nat
  | (.string bytes, d) => bytes.length + uptoBulk d + 1
  | (_, d) => uptoBulk d + 1
 end
def uptoSmall : (H : Type) → List (DataW H) → Bool := fun _ ds => decide (uptoBulkAll ds ≤ 1048576)
def OpenSpec.upto (s : _root_.Go.ChangeSpec) : _root_.Go.OpenSpec := { _root_.Go.OpenSpec.ofChange s with cond := some uptoSmall }

/-- 'wharflaw17.ConnCross', WHERE WHAT IT READS IS OF BULK AT MOST 1048576: true; the input reads as it did. -/
def connCrossUptoRow : OpenClaim := { program := "ytlnepkffefeepaagreat", sum := "ff0d34f9ad3ef59837602f9fa8ee0e4cc3aa929542c71efef1d79110756b7828", func := "wharf/wharflaw17.ConnCross", spec := "connCross", inPlace := ["slices.overlaps[wharf/ring.run]"], unfollowed := true, recurses := true, apart := false, narrowed := true }
def ConnCrossUptoSaid : Prop := connCrossUptoRow.holds Tryz.pinned (OpenSpec.upto connCrossSpec)

/-- 'wharflaw17.ConnResets', WHERE WHAT IT READS IS OF BULK AT MOST 1048576: true; the input reads as it did. -/
def connResetsUptoRow : OpenClaim := { program := "ytlnepkffefeepaagreat", sum := "ff0d34f9ad3ef59837602f9fa8ee0e4cc3aa929542c71efef1d79110756b7828", func := "wharf/wharflaw17.ConnResets", spec := "connResets", inPlace := ["slices.overlaps[wharf/ring.run]"], unfollowed := true, recurses := true, apart := false, narrowed := true }
def ConnResetsUptoSaid : Prop := connResetsUptoRow.holds Tryz.pinned (OpenSpec.upto connResetsSpec)

end Rows
end Go.Proofs.YtlnepkffefeepaaGreat
