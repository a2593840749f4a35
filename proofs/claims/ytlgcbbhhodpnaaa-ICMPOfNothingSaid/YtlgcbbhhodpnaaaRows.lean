/-
  No cell of these rows narrows 'for every input' (looked for: loops, veiled, ifaces, maps, wideKeys, modest, calm, conditions, laid).
  DERIVED. THE GIVEN ROWS OF THIS SEAT. 4 by the template 'for every input the law returns true; each argument reads behind the call as it read before'; 0 by the template 'total and deterministic' (their statements: YtlgcbbhhodpnaaaTotals.lean).
  GIVEN WITH THE SEED: the statements are not yours to turn. If you find one false, say at which input.
  Laid BY PROGRAM, IN A SANDBOX (cutbox-rows.mjs): the forced cells as the released guide's own fill.sh prints them over the translation f9d711bab9e36039… (all of the seat's roots in one cut). By AI agents, Wed Nov 11 2026. No macro, syntax, notation, axiom, sorry.
-/
import Derived.Test.YtlgcbbhhodpnaaaChecked
import GoSem.Claim
import GoSem.ClaimJoined
import GoSem.ClaimMapViews
import Derived.JoinedTies
import Derived.KernelRfl
namespace Go.Proofs.Ytlgcbbhhodpnaaa
/- THE CELL 'sum', in the pinned program and in every row, IS THE sha256 OF THE DUMP (.gsa) THAT YtlgcbbhhodpnaaaProg.lean LOADS. Nothing in Lean hashes anything: it is a label: what it is worth is what the hold of that sum in a sandbox is worth. -/
noncomputable def Try.pinned : Pinned := { name := "ytlgcbbhhodpnaaa", sum := "f9d711bab9e360396308ee64fb0a08ab6d2eea5184ab1c78b1365de6402b5d5e", checked := Try.checked }
namespace Rows
def none {H : Type} : Left H := { results := [], args := [] }

/-- 'wharflaw9.ICMPEncodes': WHATEVER THE INPUT: true; the input reads as it did. -/
def iCMPEncodesSpec : ChangeSpec := { name := "iCMPEncodes", fn := fun _ => fun
  | [d] => { results := [.lit (.bool true)], args := [d] }
  | _ => none }
def iCMPEncodesRow : OpenClaim := { program := "ytlgcbbhhodpnaaa", sum := "f9d711bab9e360396308ee64fb0a08ab6d2eea5184ab1c78b1365de6402b5d5e", func := "wharf/wharflaw9.ICMPEncodes", spec := "iCMPEncodes", apart := false }
def ICMPEncodesSaid : Prop := iCMPEncodesRow.holds Try.pinned (OpenSpec.ofChange iCMPEncodesSpec)

/-- ITS FALSE NEIGHBOUR: 'it returns false'. Refute it at one input. -/
def iCMPEncodesWrong : ChangeSpec := { name := "iCMPEncodes", fn := fun _ => fun
  | [d] => { results := [.lit (.bool false)], args := [d] }
  | _ => none }
def ICMPEncodesWrongFalsely : Prop := iCMPEncodesRow.holds Try.pinned (OpenSpec.ofChange iCMPEncodesWrong)

/-- 'wharflaw9.ICMPMay': WHATEVER THE INPUT: true; the input reads as it did. -/
def iCMPMaySpec : ChangeSpec := { name := "iCMPMay", fn := fun _ => fun
  | [d] => { results := [.lit (.bool true)], args := [d] }
  | _ => none }
def iCMPMayRow : OpenClaim := { program := "ytlgcbbhhodpnaaa", sum := "f9d711bab9e360396308ee64fb0a08ab6d2eea5184ab1c78b1365de6402b5d5e", func := "wharf/wharflaw9.ICMPMay", spec := "iCMPMay", apart := false }
def ICMPMaySaid : Prop := iCMPMayRow.holds Try.pinned (OpenSpec.ofChange iCMPMaySpec)

/-- ITS FALSE NEIGHBOUR: 'it returns false'. Refute it at one input. -/
def iCMPMayWrong : ChangeSpec := { name := "iCMPMay", fn := fun _ => fun
  | [d] => { results := [.lit (.bool false)], args := [d] }
  | _ => none }
def ICMPMayWrongFalsely : Prop := iCMPMayRow.holds Try.pinned (OpenSpec.ofChange iCMPMayWrong)

/-- 'wharflaw9.ICMPBuckets': WHATEVER THE INPUT: true; the input reads as it did. -/
def iCMPBucketsSpec : ChangeSpec := { name := "iCMPBuckets", fn := fun _ => fun
  | [d1, d2, d3] => { results := [.lit (.bool true)], args := [d1, d2, d3] }
  | _ => none }
def iCMPBucketsRow : OpenClaim := { program := "ytlgcbbhhodpnaaa", sum := "f9d711bab9e360396308ee64fb0a08ab6d2eea5184ab1c78b1365de6402b5d5e", func := "wharf/wharflaw9.ICMPBuckets", spec := "iCMPBuckets", apart := false }
def ICMPBucketsSaid : Prop := iCMPBucketsRow.holds Try.pinned (OpenSpec.ofChange iCMPBucketsSpec)

/-- ITS FALSE NEIGHBOUR: 'it returns false'. Refute it at one input. -/
def iCMPBucketsWrong : ChangeSpec := { name := "iCMPBuckets", fn := fun _ => fun
  | [d1, d2, d3] => { results := [.lit (.bool false)], args := [d1, d2, d3] }
  | _ => none }
def ICMPBucketsWrongFalsely : Prop := iCMPBucketsRow.holds Try.pinned (OpenSpec.ofChange iCMPBucketsWrong)

/-- 'wharflaw9.ICMPOfNothing': WHATEVER THE INPUT: true; the input reads as it did. -/
def iCMPOfNothingSpec : ChangeSpec := { name := "iCMPOfNothing", fn := fun _ => fun
  | [d] => { results := [.lit (.bool true)], args := [d] }
  | _ => none }
def iCMPOfNothingRow : OpenClaim := { program := "ytlgcbbhhodpnaaa", sum := "f9d711bab9e360396308ee64fb0a08ab6d2eea5184ab1c78b1365de6402b5d5e", func := "wharf/wharflaw9.ICMPOfNothing", spec := "iCMPOfNothing", apart := false }
def ICMPOfNothingSaid : Prop := iCMPOfNothingRow.holds Try.pinned (OpenSpec.ofChange iCMPOfNothingSpec)

/-- ITS FALSE NEIGHBOUR: 'it returns false'. Refute it at one input. -/
def iCMPOfNothingWrong : ChangeSpec := { name := "iCMPOfNothing", fn := fun _ => fun
  | [d] => { results := [.lit (.bool false)], args := [d] }
  | _ => none }
def ICMPOfNothingWrongFalsely : Prop := iCMPOfNothingRow.holds Try.pinned (OpenSpec.ofChange iCMPOfNothingWrong)

/- THE SECOND FORM. 'bulk': how many values and letters a reading holds, each counted each time it is reached (what is shared counts as often as it is met; a slice's spare places count too). A statement '..UptoSaid' is the law's where the arguments, and the package variables that the reading takes, are together of bulk at most 1048576: NARROWER than '..Said'. Prove '..Said' where nothing that the law and all that it calls make is longer than what came in: it says more and counts as full. Else prove '..UptoSaid'. A law counts once. -/
mutual
def uptoBulk {H : Type} : DataW H → Nat
  | .lit (.string bytes) => bytes.length + 1
  | .lit _ => 1
  | .nil => 1
  | .ptr d => uptoBulk d + 1
  | .slice elems spare => uptoBulkAll elems + uptoBulkAll spare + 1
  | .agg parts => uptoBulkAll parts + 1
  | .iface _ d => uptoBulk d + 1
  | .map entries => uptoBulkEntries entries + 1
  | .held _ => 1
def uptoBulkAll {H : Type} : List (DataW H) → Nat
  | [] => 0
  | d :: r => uptoBulk d + uptoBulkAll r
def uptoBulkEntries {H : Type} : List (Lit × DataW H) → Nat
  | [] => 0
  | x :: r => uptoBulkEntry x + uptoBulkEntries r
def uptoBulkEntry {H : Type} : Lit × DataW H → Nat
  | (.string bytes, d) => bytes.length + uptoBulk d + 1
  | (_, d) => uptoBulk d + 1
 end
def uptoSmall : (H : Type) → List (DataW H) → Bool := fun _ ds => decide (uptoBulkAll ds ≤ 1048576)
def OpenSpec.upto (s : _root_.Go.ChangeSpec) : _root_.Go.OpenSpec := { _root_.Go.OpenSpec.ofChange s with cond := some uptoSmall }

/-- 'wharflaw9.ICMPEncodes', WHERE WHAT IT READS IS OF BULK AT MOST 1048576: true; the input reads as it did. -/
def iCMPEncodesUptoRow : OpenClaim := { program := "ytlgcbbhhodpnaaa", sum := "f9d711bab9e360396308ee64fb0a08ab6d2eea5184ab1c78b1365de6402b5d5e", func := "wharf/wharflaw9.ICMPEncodes", spec := "iCMPEncodes", apart := false, narrowed := true }
def ICMPEncodesUptoSaid : Prop := iCMPEncodesUptoRow.holds Try.pinned (OpenSpec.upto iCMPEncodesSpec)

/-- 'wharflaw9.ICMPMay', WHERE WHAT IT READS IS OF BULK AT MOST 1048576: true; the input reads as it did. -/
def iCMPMayUptoRow : OpenClaim := { program := "ytlgcbbhhodpnaaa", sum := "f9d711bab9e360396308ee64fb0a08ab6d2eea5184ab1c78b1365de6402b5d5e", func := "wharf/wharflaw9.ICMPMay", spec := "iCMPMay", apart := false, narrowed := true }
def ICMPMayUptoSaid : Prop := iCMPMayUptoRow.holds Try.pinned (OpenSpec.upto iCMPMaySpec)

/-- 'wharflaw9.ICMPBuckets', WHERE WHAT IT READS IS OF BULK AT MOST 1048576: true; the input reads as it did. -/
def iCMPBucketsUptoRow : OpenClaim := { program := "ytlgcbbhhodpnaaa", sum := "f9d711bab9e360396308ee64fb0a08ab6d2eea5184ab1c78b1365de6402b5d5e", func := "wharf/wharflaw9.ICMPBuckets", spec := "iCMPBuckets", apart := false, narrowed := true }
def ICMPBucketsUptoSaid : Prop := iCMPBucketsUptoRow.holds Try.pinned (OpenSpec.upto iCMPBucketsSpec)

/-- 'wharflaw9.ICMPOfNothing', WHERE WHAT IT READS IS OF BULK AT MOST 1048576: true; the input reads as it did. -/
def iCMPOfNothingUptoRow : OpenClaim := { program := "ytlgcbbhhodpnaaa", sum := "f9d711bab9e360396308ee64fb0a08ab6d2eea5184ab1c78b1365de6402b5d5e", func := "wharf/wharflaw9.ICMPOfNothing", spec := "iCMPOfNothing", apart := false, narrowed := true }
def ICMPOfNothingUptoSaid : Prop := iCMPOfNothingUptoRow.holds Try.pinned (OpenSpec.upto iCMPOfNothingSpec)

end Rows
end Go.Proofs.Ytlgcbbhhodpnaaa
