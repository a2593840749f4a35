/-
  No cell of these rows narrows 'for every input' (looked for: loops, veiled, ifaces, maps, wideKeys, modest, calm, conditions, laid).
  DERIVED. THE GIVEN ROWS OF THIS SEAT. 7 by the template 'for every input the law returns true; each argument reads behind the call as it read before'; 0 by the template 'total and deterministic' (their statements: YtfoecnlbiaiibaaTotals.lean).
  GIVEN WITH THE SEED: the statements are not yours to turn. If you find one false, say at which input.
  Laid BY PROGRAM, IN A SANDBOX (cutbox-rows.mjs): the forced cells as the released guide's own fill.sh prints them over the translation cbb9da1a5d42cac2… (all of the seat's roots in one cut). By AI agents, Wed Nov 11 2026. No macro, syntax, notation, axiom, sorry.
-/
import Derived.Test.YtfoecnlbiaiibaaChecked
import GoSem.Claim
import GoSem.ClaimJoined
import GoSem.ClaimMapViews
import Derived.JoinedTies
import Derived.KernelRfl
namespace Go.Proofs.Ytfoecnlbiaiibaa
/- THE CELL 'sum', in the pinned program and in every row, IS THE sha256 OF THE DUMP (.gsa) THAT YtfoecnlbiaiibaaProg.lean LOADS. Nothing in Lean hashes anything: it is a label: what it is worth is what the hold of that sum in a sandbox is worth. -/
noncomputable def Try.pinned : Pinned := { name := "ytfoecnlbiaiibaa", sum := "cbb9da1a5d42cac259a996e8b1678e7e7233ee3c98d9832e4b4b5667a9806470", checked := Try.checked }
namespace Rows
def none {H : Type} : Left H := { results := [], args := [] }

/-- 'wharflaw21.NamePacks': WHATEVER THE INPUT: true; the input reads as it did. -/
def namePacksSpec : ChangeSpec := { name := "namePacks", fn := fun _ => fun
  | [d1, d2] => { results := [.lit (.bool true)], args := [d1, d2] }
  | _ => none }
def namePacksRow : OpenClaim := { program := "ytfoecnlbiaiibaa", sum := "cbb9da1a5d42cac259a996e8b1678e7e7233ee3c98d9832e4b4b5667a9806470", func := "wharf/wharflaw21.NamePacks", spec := "namePacks", inPlace := ["internal/bytealg.IndexByteString", "internal/bytealg.IndexString"], named := ["internal/bytealg.MaxLen"], apart := false }
def NamePacksSaid : Prop := namePacksRow.holds Try.pinned (OpenSpec.ofChange namePacksSpec)

/-- ITS FALSE NEIGHBOUR: 'it returns false'. Refute it at one input. -/
def namePacksWrong : ChangeSpec := { name := "namePacks", fn := fun _ => fun
  | [d1, d2] => { results := [.lit (.bool false)], args := [d1, d2] }
  | _ => none }
def NamePacksWrongFalsely : Prop := namePacksRow.holds Try.pinned (OpenSpec.ofChange namePacksWrong)

/-- 'wharflaw21.NameLoops': WHATEVER THE INPUT: true; the input reads as it did. -/
def nameLoopsSpec : ChangeSpec := { name := "nameLoops", fn := fun _ => fun
  | [d1, d2, d3] => { results := [.lit (.bool true)], args := [d1, d2, d3] }
  | _ => none }
def nameLoopsRow : OpenClaim := { program := "ytfoecnlbiaiibaa", sum := "cbb9da1a5d42cac259a996e8b1678e7e7233ee3c98d9832e4b4b5667a9806470", func := "wharf/wharflaw21.NameLoops", spec := "nameLoops", inPlace := ["internal/bytealg.IndexByteString", "internal/bytealg.IndexString"], named := ["internal/bytealg.MaxLen"], apart := false }
def NameLoopsSaid : Prop := nameLoopsRow.holds Try.pinned (OpenSpec.ofChange nameLoopsSpec)

/-- ITS FALSE NEIGHBOUR: 'it returns false'. Refute it at one input. -/
def nameLoopsWrong : ChangeSpec := { name := "nameLoops", fn := fun _ => fun
  | [d1, d2, d3] => { results := [.lit (.bool false)], args := [d1, d2, d3] }
  | _ => none }
def NameLoopsWrongFalsely : Prop := nameLoopsRow.holds Try.pinned (OpenSpec.ofChange nameLoopsWrong)

/-- 'wharflaw21.NameEncodes': WHATEVER THE INPUT: true; the input reads as it did. -/
def nameEncodesSpec : ChangeSpec := { name := "nameEncodes", fn := fun _ => fun
  | [d] => { results := [.lit (.bool true)], args := [d] }
  | _ => none }
def nameEncodesRow : OpenClaim := { program := "ytfoecnlbiaiibaa", sum := "cbb9da1a5d42cac259a996e8b1678e7e7233ee3c98d9832e4b4b5667a9806470", func := "wharf/wharflaw21.NameEncodes", spec := "nameEncodes", inPlace := ["internal/bytealg.IndexByteString", "internal/bytealg.IndexString"], named := ["internal/bytealg.MaxLen"], apart := false }
def NameEncodesSaid : Prop := nameEncodesRow.holds Try.pinned (OpenSpec.ofChange nameEncodesSpec)

/-- ITS FALSE NEIGHBOUR: 'it returns false'. Refute it at one input. -/
def nameEncodesWrong : ChangeSpec := { name := "nameEncodes", fn := fun _ => fun
  | [d] => { results := [.lit (.bool false)], args := [d] }
  | _ => none }
def NameEncodesWrongFalsely : Prop := nameEncodesRow.holds Try.pinned (OpenSpec.ofChange nameEncodesWrong)

/-- 'wharflaw21.NameBack': WHATEVER THE INPUT: true; the input reads as it did. -/
def nameBackSpec : ChangeSpec := { name := "nameBack", fn := fun _ => fun
  | [d1, d2] => { results := [.lit (.bool true)], args := [d1, d2] }
  | _ => none }
def nameBackRow : OpenClaim := { program := "ytfoecnlbiaiibaa", sum := "cbb9da1a5d42cac259a996e8b1678e7e7233ee3c98d9832e4b4b5667a9806470", func := "wharf/wharflaw21.NameBack", spec := "nameBack", inPlace := ["internal/bytealg.IndexByteString", "internal/bytealg.IndexString"], unfollowed := true, recurses := true, named := ["internal/bytealg.MaxLen"], apart := false }
def NameBackSaid : Prop := nameBackRow.holds Try.pinned (OpenSpec.ofChange nameBackSpec)

/-- ITS FALSE NEIGHBOUR: 'it returns false'. Refute it at one input. -/
def nameBackWrong : ChangeSpec := { name := "nameBack", fn := fun _ => fun
  | [d1, d2] => { results := [.lit (.bool false)], args := [d1, d2] }
  | _ => none }
def NameBackWrongFalsely : Prop := nameBackRow.holds Try.pinned (OpenSpec.ofChange nameBackWrong)

/-- 'wharflaw21.NameSames': WHATEVER THE INPUT: true; the input reads as it did. -/
def nameSamesSpec : ChangeSpec := { name := "nameSames", fn := fun _ => fun
  | [d1, d2] => { results := [.lit (.bool true)], args := [d1, d2] }
  | _ => none }
def nameSamesRow : OpenClaim := { program := "ytfoecnlbiaiibaa", sum := "cbb9da1a5d42cac259a996e8b1678e7e7233ee3c98d9832e4b4b5667a9806470", func := "wharf/wharflaw21.NameSames", spec := "nameSames", inPlace := ["internal/bytealg.IndexByteString", "internal/bytealg.IndexString"], named := ["internal/bytealg.MaxLen"], apart := false }
def NameSamesSaid : Prop := nameSamesRow.holds Try.pinned (OpenSpec.ofChange nameSamesSpec)

/-- ITS FALSE NEIGHBOUR: 'it returns false'. Refute it at one input. -/
def nameSamesWrong : ChangeSpec := { name := "nameSames", fn := fun _ => fun
  | [d1, d2] => { results := [.lit (.bool false)], args := [d1, d2] }
  | _ => none }
def NameSamesWrongFalsely : Prop := nameSamesRow.holds Try.pinned (OpenSpec.ofChange nameSamesWrong)

/-- 'wharflaw21.NameParts': WHATEVER THE INPUT: true; the input reads as it did. -/
def namePartsSpec : ChangeSpec := { name := "nameParts", fn := fun _ => fun
  | [d1, d2] => { results := [.lit (.bool true)], args := [d1, d2] }
  | _ => none }
def namePartsRow : OpenClaim := { program := "ytfoecnlbiaiibaa", sum := "cbb9da1a5d42cac259a996e8b1678e7e7233ee3c98d9832e4b4b5667a9806470", func := "wharf/wharflaw21.NameParts", spec := "nameParts", inPlace := ["internal/bytealg.IndexByteString", "internal/bytealg.IndexString"], named := ["internal/bytealg.MaxLen"], apart := false }
def NamePartsSaid : Prop := namePartsRow.holds Try.pinned (OpenSpec.ofChange namePartsSpec)

/-- ITS FALSE NEIGHBOUR: 'it returns false'. Refute it at one input. -/
def namePartsWrong : ChangeSpec := { name := "nameParts", fn := fun _ => fun
  | [d1, d2] => { results := [.lit (.bool false)], args := [d1, d2] }
  | _ => none }
def NamePartsWrongFalsely : Prop := namePartsRow.holds Try.pinned (OpenSpec.ofChange namePartsWrong)

/-- 'wharflaw21.NameAnswers': WHATEVER THE INPUT: true; the input reads as it did. -/
def nameAnswersSpec : ChangeSpec := { name := "nameAnswers", fn := fun _ => fun
  | [d1, d2] => { results := [.lit (.bool true)], args := [d1, d2] }
  | _ => none }
def nameAnswersRow : OpenClaim := { program := "ytfoecnlbiaiibaa", sum := "cbb9da1a5d42cac259a996e8b1678e7e7233ee3c98d9832e4b4b5667a9806470", func := "wharf/wharflaw21.NameAnswers", spec := "nameAnswers", inPlace := ["internal/bytealg.IndexByteString", "internal/bytealg.IndexString"], unfollowed := true, recurses := true, named := ["internal/bytealg.MaxLen"], apart := false }
def NameAnswersSaid : Prop := nameAnswersRow.holds Try.pinned (OpenSpec.ofChange nameAnswersSpec)

/-- ITS FALSE NEIGHBOUR: 'it returns false'. Refute it at one input. -/
def nameAnswersWrong : ChangeSpec := { name := "nameAnswers", fn := fun _ => fun
  | [d1, d2] => { results := [.lit (.bool false)], args := [d1, d2] }
  | _ => none }
def NameAnswersWrongFalsely : Prop := nameAnswersRow.holds Try.pinned (OpenSpec.ofChange nameAnswersWrong)

/- THE SECOND FORM. 'bulk': how many values and letters a reading holds, each counted each time it is reached (what is shared counts as often as it is met; a slice's spare places count too). A statement '..UptoSaid' is the law's where the arguments, and the package variables that the reading takes, are together of bulk at most 1048576: NARROWER than '..Said'. Prove '..Said' where nothing that the law and all that it calls make is longer than what came in: it says more and counts as full. Else prove '..UptoSaid'. A law counts once. -/
mutual
def uptoBulk {H : Type} : DataW H → Nat
  | .lit (.string bytes) => bytes.length + 1
  | .lit _ => 1
  | .nil => 1
  | .ptr d => uptoBulk d + 1
  | .slice elems spare => uptoBulkAll elems + uptoBulkAll spare + 1
  | .agg parts => uptoBulkAll parts + 1
  | .iface _ d => uptoBulk d + 1
  | .map entries => uptoBulkEntries entries + 1
  | .held _ => 1
def uptoBulkAll {H : Type} : List (DataW H) → Nat
  | [] => 0
  | d :: r => uptoBulk d + uptoBulkAll r
def uptoBulkEntries {H : Type} : List (Lit × DataW H) → Nat
  | [] => 0
  | x :: r => uptoBulkEntry x + uptoBulkEntries r
def uptoBulkEntry {H : Type} : Lit × DataW H → Nat
  | (.string bytes, d) => bytes.length + uptoBulk d + 1
  | (_, d) => uptoBulk d + 1
 end
def uptoSmall : (H : Type) → List (DataW H) → Bool := fun _ ds => decide (uptoBulkAll ds ≤ 1048576)
def OpenSpec.upto (s : _root_.Go.ChangeSpec) : _root_.Go.OpenSpec := { _root_.Go.OpenSpec.ofChange s with cond := some uptoSmall }

/-- 'wharflaw21.NamePacks', WHERE WHAT IT READS IS OF BULK AT MOST 1048576: true; the input reads as it did. -/
def namePacksUptoRow : OpenClaim := { program := "ytfoecnlbiaiibaa", sum := "cbb9da1a5d42cac259a996e8b1678e7e7233ee3c98d9832e4b4b5667a9806470", func := "wharf/wharflaw21.NamePacks", spec := "namePacks", inPlace := ["internal/bytealg.IndexByteString", "internal/bytealg.IndexString"], named := ["internal/bytealg.MaxLen"], apart := false, narrowed := true }
def NamePacksUptoSaid : Prop := namePacksUptoRow.holds Try.pinned (OpenSpec.upto namePacksSpec)

/-- 'wharflaw21.NameLoops', WHERE WHAT IT READS IS OF BULK AT MOST 1048576: true; the input reads as it did. -/
def nameLoopsUptoRow : OpenClaim := { program := "ytfoecnlbiaiibaa", sum := "cbb9da1a5d42cac259a996e8b1678e7e7233ee3c98d9832e4b4b5667a9806470", func := "wharf/wharflaw21.NameLoops", spec := "nameLoops", inPlace := ["internal/bytealg.IndexByteString", "internal/bytealg.IndexString"], named := ["internal/bytealg.MaxLen"], apart := false, narrowed := true }
def NameLoopsUptoSaid : Prop := nameLoopsUptoRow.holds Try.pinned (OpenSpec.upto nameLoopsSpec)

/-- 'wharflaw21.NameEncodes', WHERE WHAT IT READS IS OF BULK AT MOST 1048576: true; the input reads as it did. -/
def nameEncodesUptoRow : OpenClaim := { program := "ytfoecnlbiaiibaa", sum := "cbb9da1a5d42cac259a996e8b1678e7e7233ee3c98d9832e4b4b5667a9806470", func := "wharf/wharflaw21.NameEncodes", spec := "nameEncodes", inPlace := ["internal/bytealg.IndexByteString", "internal/bytealg.IndexString"], named := ["internal/bytealg.MaxLen"], apart := false, narrowed := true }
def NameEncodesUptoSaid : Prop := nameEncodesUptoRow.holds Try.pinned (OpenSpec.upto nameEncodesSpec)

/-- 'wharflaw21.NameBack', WHERE WHAT IT READS IS OF BULK AT MOST 1048576: true; the input reads as it did. -/
def nameBackUptoRow : OpenClaim := { program := "ytfoecnlbiaiibaa", sum := "cbb9da1a5d42cac259a996e8b1678e7e7233ee3c98d9832e4b4b5667a9806470", func := "wharf/wharflaw21.NameBack", spec := "nameBack", inPlace := ["internal/bytealg.IndexByteString", "internal/bytealg.IndexString"], unfollowed := true, recurses := true, named := ["internal/bytealg.MaxLen"], apart := false, narrowed := true }
def NameBackUptoSaid : Prop := nameBackUptoRow.holds Try.pinned (OpenSpec.upto nameBackSpec)

/-- 'wharflaw21.NameSames', WHERE WHAT IT READS IS OF BULK AT MOST 1048576: true; the input reads as it did. -/
def nameSamesUptoRow : OpenClaim := { program := "ytfoecnlbiaiibaa", sum := "cbb9da1a5d42cac259a996e8b1678e7e7233ee3c98d9832e4b4b5667a9806470", func := "wharf/wharflaw21.NameSames", spec := "nameSames", inPlace := ["internal/bytealg.IndexByteString", "internal/bytealg.IndexString"], named := ["internal/bytealg.MaxLen"], apart := false, narrowed := true }
def NameSamesUptoSaid : Prop := nameSamesUptoRow.holds Try.pinned (OpenSpec.upto nameSamesSpec)

/-- 'wharflaw21.NameParts', WHERE WHAT IT READS IS OF BULK AT MOST 1048576: true; the input reads as it did. -/
def namePartsUptoRow : OpenClaim := { program := "ytfoecnlbiaiibaa", sum := "cbb9da1a5d42cac259a996e8b1678e7e7233ee3c98d9832e4b4b5667a9806470", func := "wharf/wharflaw21.NameParts", spec := "nameParts", inPlace := ["internal/bytealg.IndexByteString", "internal/bytealg.IndexString"], named := ["internal/bytealg.MaxLen"], apart := false, narrowed := true }
def NamePartsUptoSaid : Prop := namePartsUptoRow.holds Try.pinned (OpenSpec.upto namePartsSpec)

/-- 'wharflaw21.NameAnswers', WHERE WHAT IT READS IS OF BULK AT MOST 1048576: true; the input reads as it did. -/
def nameAnswersUptoRow : OpenClaim := { program := "ytfoecnlbiaiibaa", sum := "cbb9da1a5d42cac259a996e8b1678e7e7233ee3c98d9832e4b4b5667a9806470", func := "wharf/wharflaw21.NameAnswers", spec := "nameAnswers", inPlace := ["internal/bytealg.IndexByteString", "internal/bytealg.IndexString"], unfollowed := true, recurses := true, named := ["internal/bytealg.MaxLen"], apart := false, narrowed := true }
def NameAnswersUptoSaid : Prop := nameAnswersUptoRow.holds Try.pinned (OpenSpec.upto nameAnswersSpec)

end Rows
end Go.Proofs.Ytfoecnlbiaiibaa
