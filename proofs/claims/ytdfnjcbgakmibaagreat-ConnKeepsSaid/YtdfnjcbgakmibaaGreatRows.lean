/-
  No cell of these rows narrows 'for every input' (looked for: loops, veiled, ifaces, maps, wideKeys, modest, calm, conditions, laid).
  DERIVED. THE GIVEN ROWS OF THIS SEAT. 5 by the template 'for every input the law returns true; each argument reads behind the call as it read before'; 0 by the template 'total and deterministic' (their statements: YtdfnjcbgakmibaaGreatTotals.lean).
  GIVEN WITH THE SEED: the statements are not yours to turn. If you find one false, say at which input.
  Laid BY PROGRAM, IN A SANDBOX (cutbox-rows.mjs): the forced cells as the released guide's own fill.sh prints them over the translation d1dd1e9611f9d5ea… (all of the seat's roots in one cut). By AI agents, Wed Nov 11 2026. No macro, syntax, notation, axiom, sorry.
-/
import Derived.Test.YtdfnjcbgakmibaaGreatChecked
import GoSem.Claim
import GoSem.ClaimJoined
import GoSem.ClaimMapViews
import Derived.JoinedTies
import Derived.KernelRfl
namespace Go.Proofs.YtdfnjcbgakmibaaGreat
/- THE CELL 'sum', in the pinned program and in every row, IS THE sha256 OF THE DUMP (.gsa) THAT YtdfnjcbgakmibaaGreatProg.lean LOADS. Nothing in Lean hashes anything: it is a label: what it is worth is what the hold of that sum in a sandbox is worth. -/
noncomputable def Tryz.pinned : Pinned := { name := "ytdfnjcbgakmibaagreat", sum := "d1dd1e9611f9d5ea3dee28608230189d00ae619302c11e0a3768c9feeab7d9f2", checked := Tryz.checked }
namespace Rows
def none {H : Type} : Left H := { results := [], args := [] }

/-- 'wharflaw17.ConnCross': WHATEVER THE INPUT: true; the input reads as it did. -/
def connCrossSpec : ChangeSpec := { name := "connCross", fn := fun _ => fun
  | [d1, d2] => { results := [.lit (.bool true)], args := [d1, d2] }
  | _ => none }
def connCrossRow : OpenClaim := { program := "ytdfnjcbgakmibaagreat", sum := "d1dd1e9611f9d5ea3dee28608230189d00ae619302c11e0a3768c9feeab7d9f2", func := "wharf/wharflaw17.ConnCross", spec := "connCross", inPlace := ["slices.overlaps[wharf/ring.run]"], unfollowed := true, recurses := true, apart := false }
def ConnCrossSaid : Prop := connCrossRow.holds Tryz.pinned (OpenSpec.ofChange connCrossSpec)

/-- ITS FALSE NEIGHBOUR: 'it returns false'. Refute it at one input. -/
def connCrossWrong : ChangeSpec := { name := "connCross", fn := fun _ => fun
  | [d1, d2] => { results := [.lit (.bool false)], args := [d1, d2] }
  | _ => none }
def ConnCrossWrongFalsely : Prop := connCrossRow.holds Tryz.pinned (OpenSpec.ofChange connCrossWrong)

/-- 'wharflaw17.ConnWaits': WHATEVER THE INPUT: true; the input reads as it did. -/
def connWaitsSpec : ChangeSpec := { name := "connWaits", fn := fun _ => fun
  | [d1, d2] => { results := [.lit (.bool true)], args := [d1, d2] }
  | _ => none }
def connWaitsRow : OpenClaim := { program := "ytdfnjcbgakmibaagreat", sum := "d1dd1e9611f9d5ea3dee28608230189d00ae619302c11e0a3768c9feeab7d9f2", func := "wharf/wharflaw17.ConnWaits", spec := "connWaits", inPlace := ["slices.overlaps[wharf/ring.run]"], unfollowed := true, recurses := true, apart := false }
def ConnWaitsSaid : Prop := connWaitsRow.holds Tryz.pinned (OpenSpec.ofChange connWaitsSpec)

/-- ITS FALSE NEIGHBOUR: 'it returns false'. Refute it at one input. -/
def connWaitsWrong : ChangeSpec := { name := "connWaits", fn := fun _ => fun
  | [d1, d2] => { results := [.lit (.bool false)], args := [d1, d2] }
  | _ => none }
def ConnWaitsWrongFalsely : Prop := connWaitsRow.holds Tryz.pinned (OpenSpec.ofChange connWaitsWrong)

/-- 'wharflaw17.ConnMends': WHATEVER THE INPUT: true; the input reads as it did. -/
def connMendsSpec : ChangeSpec := { name := "connMends", fn := fun _ => fun
  | [d] => { results := [.lit (.bool true)], args := [d] }
  | _ => none }
def connMendsRow : OpenClaim := { program := "ytdfnjcbgakmibaagreat", sum := "d1dd1e9611f9d5ea3dee28608230189d00ae619302c11e0a3768c9feeab7d9f2", func := "wharf/wharflaw17.ConnMends", spec := "connMends", inPlace := ["slices.overlaps[wharf/ring.run]"], unfollowed := true, recurses := true, apart := false }
def ConnMendsSaid : Prop := connMendsRow.holds Tryz.pinned (OpenSpec.ofChange connMendsSpec)

/-- ITS FALSE NEIGHBOUR: 'it returns false'. Refute it at one input. -/
def connMendsWrong : ChangeSpec := { name := "connMends", fn := fun _ => fun
  | [d] => { results := [.lit (.bool false)], args := [d] }
  | _ => none }
def ConnMendsWrongFalsely : Prop := connMendsRow.holds Tryz.pinned (OpenSpec.ofChange connMendsWrong)

/-- 'wharflaw17.ConnGivesUp': WHATEVER THE INPUT: true; the input reads as it did. -/
def connGivesUpSpec : ChangeSpec := { name := "connGivesUp", fn := fun _ => fun
  | [d] => { results := [.lit (.bool true)], args := [d] }
  | _ => none }
def connGivesUpRow : OpenClaim := { program := "ytdfnjcbgakmibaagreat", sum := "d1dd1e9611f9d5ea3dee28608230189d00ae619302c11e0a3768c9feeab7d9f2", func := "wharf/wharflaw17.ConnGivesUp", spec := "connGivesUp", inPlace := ["slices.overlaps[wharf/ring.run]"], unfollowed := true, recurses := true, apart := false }
def ConnGivesUpSaid : Prop := connGivesUpRow.holds Tryz.pinned (OpenSpec.ofChange connGivesUpSpec)

/-- ITS FALSE NEIGHBOUR: 'it returns false'. Refute it at one input. -/
def connGivesUpWrong : ChangeSpec := { name := "connGivesUp", fn := fun _ => fun
  | [d] => { results := [.lit (.bool false)], args := [d] }
  | _ => none }
def ConnGivesUpWrongFalsely : Prop := connGivesUpRow.holds Tryz.pinned (OpenSpec.ofChange connGivesUpWrong)

/-- 'wharflaw17.ConnKeeps': WHATEVER THE INPUT: true; the input reads as it did. -/
def connKeepsSpec : ChangeSpec := { name := "connKeeps", fn := fun _ => fun
  | [d] => { results := [.lit (.bool true)], args := [d] }
  | _ => none }
def connKeepsRow : OpenClaim := { program := "ytdfnjcbgakmibaagreat", sum := "d1dd1e9611f9d5ea3dee28608230189d00ae619302c11e0a3768c9feeab7d9f2", func := "wharf/wharflaw17.ConnKeeps", spec := "connKeeps", inPlace := ["slices.overlaps[wharf/ring.run]"], unfollowed := true, recurses := true, apart := false }
def ConnKeepsSaid : Prop := connKeepsRow.holds Tryz.pinned (OpenSpec.ofChange connKeepsSpec)

/-- ITS FALSE NEIGHBOUR: 'it returns false'. Refute it at one input. -/
def connKeepsWrong : ChangeSpec := { name := "connKeeps", fn := fun _ => fun
  | [d] => { results := [.lit (.bool false)], args := [d] }
  | _ => none }
def ConnKeepsWrongFalsely : Prop := connKeepsRow.holds Tryz.pinned (OpenSpec.ofChange connKeepsWrong)

/- THE SECOND FORM. 'bulk': how many values and letters a reading holds, each counted each time it is reached (what is shared counts as often as it is met; a slice's spare places count too). A statement '..UptoSaid' is the law's where the arguments, and the package variables that the reading takes, are together of bulk at most 1048576: NARROWER than '..Said'. Prove '..Said' where nothing that the law and all that it calls make is longer than what came in: it says more and counts as full. Else prove '..UptoSaid'. A law counts once. -/
mutual
def uptoBulk {H : Type} : DataW H → Nat
  | .lit (.string bytes) => bytes.length + 1
  | .lit _ => 1
  | .nil => 1
  | .ptr d => uptoBulk d + 1
  | .slice elems spare => uptoBulkAll elems + uptoBulkAll spare + 1
  | .agg parts => uptoBulkAll parts + 1
  | .iface _ d => uptoBulk d + 1
  | .map entries => uptoBulkEntries entries + 1
  | .held _ => 1
def uptoBulkAll {H : Type} : List (DataW H) → Nat
  | [] => 0
  | d :: r => uptoBulk d + uptoBulkAll r
def uptoBulkEntries {H : Type} : List (Lit × DataW H) → Nat
  | [] => 0
  | x :: r => uptoBulkEntry x + uptoBulkEntries r
def uptoBulkEntry {H : Type} : Lit × DataW H → Nat
  | (.string bytes, d) => bytes.length + uptoBulk d + 1
  | (_, d) => uptoBulk d + 1
 end
def uptoSmall : (H : Type) → List (DataW H) → Bool := fun _ ds => decide (uptoBulkAll ds ≤ 1048576)
def OpenSpec.upto (s : _root_.Go.ChangeSpec) : _root_.Go.OpenSpec := { _root_.Go.OpenSpec.ofChange s with cond := some uptoSmall }

/-- 'wharflaw17.ConnCross', WHERE WHAT IT READS IS OF BULK AT MOST 1048576: true; the input reads as it did. -/
def connCrossUptoRow : OpenClaim := { program := "ytdfnjcbgakmibaagreat", sum := "d1dd1e9611f9d5ea3dee28608230189d00ae619302c11e0a3768c9feeab7d9f2", func := "wharf/wharflaw17.ConnCross", spec := "connCross", inPlace := ["slices.overlaps[wharf/ring.run]"], unfollowed := true, recurses := true, apart := false, narrowed := true }
def ConnCrossUptoSaid : Prop := connCrossUptoRow.holds Tryz.pinned (OpenSpec.upto connCrossSpec)

/-- 'wharflaw17.ConnWaits', WHERE WHAT IT READS IS OF BULK AT MOST 1048576: true; the input reads as it did. -/
def connWaitsUptoRow : OpenClaim := { program := "ytdfnjcbgakmibaagreat", sum := "d1dd1e9611f9d5ea3dee28608230189d00ae619302c11e0a3768c9feeab7d9f2", func := "wharf/wharflaw17.ConnWaits", spec := "connWaits", inPlace := ["slices.overlaps[wharf/ring.run]"], unfollowed := true, recurses := true, apart := false, narrowed := true }
def ConnWaitsUptoSaid : Prop := connWaitsUptoRow.holds Tryz.pinned (OpenSpec.upto connWaitsSpec)

/-- 'wharflaw17.ConnMends', WHERE WHAT IT READS IS OF BULK AT MOST 1048576: true; the input reads as it did. -/
def connMendsUptoRow : OpenClaim := { program := "ytdfnjcbgakmibaagreat", sum := "d1dd1e9611f9d5ea3dee28608230189d00ae619302c11e0a3768c9feeab7d9f2", func := "wharf/wharflaw17.ConnMends", spec := "connMends", inPlace := ["slices.overlaps[wharf/ring.run]"], unfollowed := true, recurses := true, apart := false, narrowed := true }
def ConnMendsUptoSaid : Prop := connMendsUptoRow.holds Tryz.pinned (OpenSpec.upto connMendsSpec)

/-- 'wharflaw17.ConnGivesUp', WHERE WHAT IT READS IS OF BULK AT MOST 1048576: true; the input reads as it did. -/
def connGivesUpUptoRow : OpenClaim := { program := "ytdfnjcbgakmibaagreat", sum := "d1dd1e9611f9d5ea3dee28608230189d00ae619302c11e0a3768c9feeab7d9f2", func := "wharf/wharflaw17.ConnGivesUp", spec := "connGivesUp", inPlace := ["slices.overlaps[wharf/ring.run]"], unfollowed := true, recurses := true, apart := false, narrowed := true }
def ConnGivesUpUptoSaid : Prop := connGivesUpUptoRow.holds Tryz.pinned (OpenSpec.upto connGivesUpSpec)

/-- 'wharflaw17.ConnKeeps', WHERE WHAT IT READS IS OF BULK AT MOST 1048576: true; the input reads as it did. -/
def connKeepsUptoRow : OpenClaim := { program := "ytdfnjcbgakmibaagreat", sum := "d1dd1e9611f9d5ea3dee28608230189d00ae619302c11e0a3768c9feeab7d9f2", func := "wharf/wharflaw17.ConnKeeps", spec := "connKeeps", inPlace := ["slices.overlaps[wharf/ring.run]"], unfollowed := true, recurses := true, apart := false, narrowed := true }
def ConnKeepsUptoSaid : Prop := connKeepsUptoRow.holds Tryz.pinned (OpenSpec.upto connKeepsSpec)

end Rows
end Go.Proofs.YtdfnjcbgakmibaaGreat
