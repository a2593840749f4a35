/-
  No cell of these rows narrows 'for every input' (looked for: loops, veiled, ifaces, maps, wideKeys, modest, calm, conditions, laid).
  DERIVED. THE GIVEN ROWS OF THIS SEAT. 6 by the template 'for every input the law returns true; each argument reads behind the call as it read before'; 0 by the template 'total and deterministic' (their statements: YtjehddcgbgfhdaaGreatTotals.lean).
  GIVEN WITH THE SEED: the statements are not yours to turn. If you find one false, say at which input.
  Laid BY PROGRAM, IN A SANDBOX (cutbox-rows.mjs): the forced cells as the released guide's own fill.sh prints them over the translation 590b3c359198ef02… (all of the seat's roots in one cut). By AI agents, Wed Nov 11 2026. No macro, syntax, notation, axiom, sorry.
-/
import Derived.Test.YtjehddcgbgfhdaaGreatChecked
import GoSem.Claim
import GoSem.ClaimJoined
import GoSem.ClaimMapViews
import Derived.JoinedTies
import Derived.KernelRfl
namespace Go.Proofs.YtjehddcgbgfhdaaGreat
/- THE CELL 'sum', in the pinned program and in every row, IS THE sha256 OF THE DUMP (.gsa) THAT YtjehddcgbgfhdaaGreatProg.lean LOADS. Nothing in Lean hashes anything: it is a label: what it is worth is what the hold of that sum in a sandbox is worth. -/
noncomputable def Tryz.pinned : Pinned := { name := "ytjehddcgbgfhdaagreat", sum := "590b3c359198ef02b06e7c4c0e3b55582a47acc7bf750fadaf858a4aaf277472", checked := Tryz.checked }
namespace Rows
def none {H : Type} : Left H := { results := [], args := [] }

/-- 'wharflaw19.HostOfNothing': WHATEVER THE INPUT: true; the input reads as it did. -/
def hostOfNothingSpec : ChangeSpec := { name := "hostOfNothing", fn := fun _ => fun
  | [d1, d2, d3] => { results := [.lit (.bool true)], args := [d1, d2, d3] }
  | _ => none }
def hostOfNothingRow : OpenClaim := { program := "ytjehddcgbgfhdaagreat", sum := "590b3c359198ef02b06e7c4c0e3b55582a47acc7bf750fadaf858a4aaf277472", func := "wharf/wharflaw19.HostOfNothing", spec := "hostOfNothing", inPlace := ["sync/atomic.AddInt64", "sync/atomic.CompareAndSwapInt64", "slices.overlaps[wharf/igmp.member]", "slices.overlaps[wharf/ring.run]", "slices.overlaps[wharf/api.Route]"], unfollowed := true, recurses := true, plainKeys := false, apart := false }
def HostOfNothingSaid : Prop := hostOfNothingRow.holds Tryz.pinned (OpenSpec.ofChange hostOfNothingSpec)

/-- ITS FALSE NEIGHBOUR: 'it returns false'. Refute it at one input. -/
def hostOfNothingWrong : ChangeSpec := { name := "hostOfNothing", fn := fun _ => fun
  | [d1, d2, d3] => { results := [.lit (.bool false)], args := [d1, d2, d3] }
  | _ => none }
def HostOfNothingWrongFalsely : Prop := hostOfNothingRow.holds Tryz.pinned (OpenSpec.ofChange hostOfNothingWrong)

/-- 'wharflaw19.HostRefused': WHATEVER THE INPUT: true; the input reads as it did. -/
def hostRefusedSpec : ChangeSpec := { name := "hostRefused", fn := fun _ => fun
  | [d1, d2] => { results := [.lit (.bool true)], args := [d1, d2] }
  | _ => none }
def hostRefusedRow : OpenClaim := { program := "ytjehddcgbgfhdaagreat", sum := "590b3c359198ef02b06e7c4c0e3b55582a47acc7bf750fadaf858a4aaf277472", func := "wharf/wharflaw19.HostRefused", spec := "hostRefused", inPlace := ["sync/atomic.AddInt64", "sync/atomic.CompareAndSwapInt64", "slices.overlaps[wharf/ring.run]", "slices.overlaps[wharf/api.Route]"], unfollowed := true, recurses := true, plainKeys := false, apart := false }
def HostRefusedSaid : Prop := hostRefusedRow.holds Tryz.pinned (OpenSpec.ofChange hostRefusedSpec)

/-- ITS FALSE NEIGHBOUR: 'it returns false'. Refute it at one input. -/
def hostRefusedWrong : ChangeSpec := { name := "hostRefused", fn := fun _ => fun
  | [d1, d2] => { results := [.lit (.bool false)], args := [d1, d2] }
  | _ => none }
def HostRefusedWrongFalsely : Prop := hostRefusedRow.holds Tryz.pinned (OpenSpec.ofChange hostRefusedWrong)

/-- 'wharflaw19.HostGroups': WHATEVER THE INPUT: true; the input reads as it did. -/
def hostGroupsSpec : ChangeSpec := { name := "hostGroups", fn := fun _ => fun
  | [d1, d2, d3] => { results := [.lit (.bool true)], args := [d1, d2, d3] }
  | _ => none }
def hostGroupsRow : OpenClaim := { program := "ytjehddcgbgfhdaagreat", sum := "590b3c359198ef02b06e7c4c0e3b55582a47acc7bf750fadaf858a4aaf277472", func := "wharf/wharflaw19.HostGroups", spec := "hostGroups", inPlace := ["sync/atomic.AddInt64", "sync/atomic.CompareAndSwapInt64", "slices.overlaps[wharf/ring.run]", "slices.overlaps[wharf/api.Route]", "slices.overlaps[wharf/igmp.member]"], unfollowed := true, recurses := true, plainKeys := false, apart := false }
def HostGroupsSaid : Prop := hostGroupsRow.holds Tryz.pinned (OpenSpec.ofChange hostGroupsSpec)

/-- ITS FALSE NEIGHBOUR: 'it returns false'. Refute it at one input. -/
def hostGroupsWrong : ChangeSpec := { name := "hostGroups", fn := fun _ => fun
  | [d1, d2, d3] => { results := [.lit (.bool false)], args := [d1, d2, d3] }
  | _ => none }
def HostGroupsWrongFalsely : Prop := hostGroupsRow.holds Tryz.pinned (OpenSpec.ofChange hostGroupsWrong)

/-- 'wharflaw19.HostLost': WHATEVER THE INPUT: true; the input reads as it did. -/
def hostLostSpec : ChangeSpec := { name := "hostLost", fn := fun _ => fun
  | [d] => { results := [.lit (.bool true)], args := [d] }
  | _ => none }
def hostLostRow : OpenClaim := { program := "ytjehddcgbgfhdaagreat", sum := "590b3c359198ef02b06e7c4c0e3b55582a47acc7bf750fadaf858a4aaf277472", func := "wharf/wharflaw19.HostLost", spec := "hostLost", inPlace := ["sync/atomic.AddInt64", "sync/atomic.CompareAndSwapInt64", "slices.overlaps[wharf/ring.run]", "slices.overlaps[wharf/api.Route]", "sync/atomic.LoadInt64"], unfollowed := true, recurses := true, plainKeys := false, apart := false }
def HostLostSaid : Prop := hostLostRow.holds Tryz.pinned (OpenSpec.ofChange hostLostSpec)

/-- ITS FALSE NEIGHBOUR: 'it returns false'. Refute it at one input. -/
def hostLostWrong : ChangeSpec := { name := "hostLost", fn := fun _ => fun
  | [d] => { results := [.lit (.bool false)], args := [d] }
  | _ => none }
def HostLostWrongFalsely : Prop := hostLostRow.holds Tryz.pinned (OpenSpec.ofChange hostLostWrong)

/-- 'wharflaw19.HostRoutes': WHATEVER THE INPUT: true; the input reads as it did. -/
def hostRoutesSpec : ChangeSpec := { name := "hostRoutes", fn := fun _ => fun
  | [d1, d2] => { results := [.lit (.bool true)], args := [d1, d2] }
  | _ => none }
def hostRoutesRow : OpenClaim := { program := "ytjehddcgbgfhdaagreat", sum := "590b3c359198ef02b06e7c4c0e3b55582a47acc7bf750fadaf858a4aaf277472", func := "wharf/wharflaw19.HostRoutes", spec := "hostRoutes", inPlace := ["sync/atomic.AddInt64", "sync/atomic.CompareAndSwapInt64", "slices.overlaps[wharf/ring.run]", "slices.overlaps[wharf/api.Route]", "sync/atomic.LoadInt64"], unfollowed := true, recurses := true, plainKeys := false, apart := false }
def HostRoutesSaid : Prop := hostRoutesRow.holds Tryz.pinned (OpenSpec.ofChange hostRoutesSpec)

/-- ITS FALSE NEIGHBOUR: 'it returns false'. Refute it at one input. -/
def hostRoutesWrong : ChangeSpec := { name := "hostRoutes", fn := fun _ => fun
  | [d1, d2] => { results := [.lit (.bool false)], args := [d1, d2] }
  | _ => none }
def HostRoutesWrongFalsely : Prop := hostRoutesRow.holds Tryz.pinned (OpenSpec.ofChange hostRoutesWrong)

/-- 'wharflaw19.HostAnswers': WHATEVER THE INPUT: true; the input reads as it did. -/
def hostAnswersSpec : ChangeSpec := { name := "hostAnswers", fn := fun _ => fun
  | [d1, d2] => { results := [.lit (.bool true)], args := [d1, d2] }
  | _ => none }
def hostAnswersRow : OpenClaim := { program := "ytjehddcgbgfhdaagreat", sum := "590b3c359198ef02b06e7c4c0e3b55582a47acc7bf750fadaf858a4aaf277472", func := "wharf/wharflaw19.HostAnswers", spec := "hostAnswers", inPlace := ["sync/atomic.AddInt64", "sync/atomic.CompareAndSwapInt64", "slices.overlaps[wharf/ring.run]", "slices.overlaps[wharf/api.Route]"], unfollowed := true, recurses := true, plainKeys := false, apart := false }
def HostAnswersSaid : Prop := hostAnswersRow.holds Tryz.pinned (OpenSpec.ofChange hostAnswersSpec)

/-- ITS FALSE NEIGHBOUR: 'it returns false'. Refute it at one input. -/
def hostAnswersWrong : ChangeSpec := { name := "hostAnswers", fn := fun _ => fun
  | [d1, d2] => { results := [.lit (.bool false)], args := [d1, d2] }
  | _ => none }
def HostAnswersWrongFalsely : Prop := hostAnswersRow.holds Tryz.pinned (OpenSpec.ofChange hostAnswersWrong)

/- THE SECOND FORM. 'bulk': how many values and letters a reading holds, each counted each time it is reached (what is shared counts as often as it is met; a slice's spare places count too). A statement '..UptoSaid' is the law's where the arguments, and the package variables that the reading takes, are together of bulk at most 1048576: NARROWER than '..Said'. Prove '..Said' where nothing that the law and all that it calls make is longer than what came in: it says more and counts as full. Else prove '..UptoSaid'. A law counts once. -/
mutual
def uptoBulk {H : Type} : DataW H → Nat
  | .lit (.string bytes) => bytes.length + 1
  | .lit _ => 1
  | .nil => 1
  | .ptr d => uptoBulk d + 1
  | .slice elems spare => uptoBulkAll elems + uptoBulkAll spare + 1
  | .agg parts => uptoBulkAll parts + 1
  | .iface _ d => uptoBulk d + 1
  | .map entries => uptoBulkEntries entries + 1
  | .held _ => 1
def uptoBulkAll {H : Type} : List (DataW H) → Nat
  | [] => 0
  | d :: r => uptoBulk d + uptoBulkAll r
def uptoBulkEntries {H : Type} : List (Lit × DataW H) → Nat
  | [] => 0
  | x :: r => uptoBulkEntry x + uptoBulkEntries r
def uptoBulkEntry {H : Type} : Lit × DataW H → Nat
  | (.string bytes, d) => bytes.length + uptoBulk d + 1
  | (_, d) => uptoBulk d + 1
 end
def uptoSmall : (H : Type) → List (DataW H) → Bool := fun _ ds => decide (uptoBulkAll ds ≤ 1048576)
def OpenSpec.upto (s : _root_.Go.ChangeSpec) : _root_.Go.OpenSpec := { _root_.Go.OpenSpec.ofChange s with cond := some uptoSmall }

/-- 'wharflaw19.HostOfNothing', WHERE WHAT IT READS IS OF BULK AT MOST 1048576: true; the input reads as it did. -/
def hostOfNothingUptoRow : OpenClaim := { program := "ytjehddcgbgfhdaagreat", sum := "590b3c359198ef02b06e7c4c0e3b55582a47acc7bf750fadaf858a4aaf277472", func := "wharf/wharflaw19.HostOfNothing", spec := "hostOfNothing", inPlace := ["sync/atomic.AddInt64", "sync/atomic.CompareAndSwapInt64", "slices.overlaps[wharf/igmp.member]", "slices.overlaps[wharf/ring.run]", "slices.overlaps[wharf/api.Route]"], unfollowed := true, recurses := true, plainKeys := false, apart := false, narrowed := true }
def HostOfNothingUptoSaid : Prop := hostOfNothingUptoRow.holds Tryz.pinned (OpenSpec.upto hostOfNothingSpec)

/-- 'wharflaw19.HostRefused', WHERE WHAT IT READS IS OF BULK AT MOST 1048576: true; the input reads as it did. -/
def hostRefusedUptoRow : OpenClaim := { program := "ytjehddcgbgfhdaagreat", sum := "590b3c359198ef02b06e7c4c0e3b55582a47acc7bf750fadaf858a4aaf277472", func := "wharf/wharflaw19.HostRefused", spec := "hostRefused", inPlace := ["sync/atomic.AddInt64", "sync/atomic.CompareAndSwapInt64", "slices.overlaps[wharf/ring.run]", "slices.overlaps[wharf/api.Route]"], unfollowed := true, recurses := true, plainKeys := false, apart := false, narrowed := true }
def HostRefusedUptoSaid : Prop := hostRefusedUptoRow.holds Tryz.pinned (OpenSpec.upto hostRefusedSpec)

/-- 'wharflaw19.HostGroups', WHERE WHAT IT READS IS OF BULK AT MOST 1048576: true; the input reads as it did. -/
def hostGroupsUptoRow : OpenClaim := { program := "ytjehddcgbgfhdaagreat", sum := "590b3c359198ef02b06e7c4c0e3b55582a47acc7bf750fadaf858a4aaf277472", func := "wharf/wharflaw19.HostGroups", spec := "hostGroups", inPlace := ["sync/atomic.AddInt64", "sync/atomic.CompareAndSwapInt64", "slices.overlaps[wharf/ring.run]", "slices.overlaps[wharf/api.Route]", "slices.overlaps[wharf/igmp.member]"], unfollowed := true, recurses := true, plainKeys := false, apart := false, narrowed := true }
def HostGroupsUptoSaid : Prop := hostGroupsUptoRow.holds Tryz.pinned (OpenSpec.upto hostGroupsSpec)

/-- 'wharflaw19.HostLost', WHERE WHAT IT READS IS OF BULK AT MOST 1048576: true; the input reads as it did. -/
def hostLostUptoRow : OpenClaim := { program := "ytjehddcgbgfhdaagreat", sum := "590b3c359198ef02b06e7c4c0e3b55582a47acc7bf750fadaf858a4aaf277472", func := "wharf/wharflaw19.HostLost", spec := "hostLost", inPlace := ["sync/atomic.AddInt64", "sync/atomic.CompareAndSwapInt64", "slices.overlaps[wharf/ring.run]", "slices.overlaps[wharf/api.Route]", "sync/atomic.LoadInt64"], unfollowed := true, recurses := true, plainKeys := false, apart := false, narrowed := true }
def HostLostUptoSaid : Prop := hostLostUptoRow.holds Tryz.pinned (OpenSpec.upto hostLostSpec)

/-- 'wharflaw19.HostRoutes', WHERE WHAT IT READS IS OF BULK AT MOST 1048576: true; the input reads as it did. -/
def hostRoutesUptoRow : OpenClaim := { program := "ytjehddcgbgfhdaagreat", sum := "590b3c359198ef02b06e7c4c0e3b55582a47acc7bf750fadaf858a4aaf277472", func := "wharf/wharflaw19.HostRoutes", spec := "hostRoutes", inPlace := ["sync/atomic.AddInt64", "sync/atomic.CompareAndSwapInt64", "slices.overlaps[wharf/ring.run]", "slices.overlaps[wharf/api.Route]", "sync/atomic.LoadInt64"], unfollowed := true, recurses := true, plainKeys := false, apart := false, narrowed := true }
def HostRoutesUptoSaid : Prop := hostRoutesUptoRow.holds Tryz.pinned (OpenSpec.upto hostRoutesSpec)

/-- 'wharflaw19.HostAnswers', WHERE WHAT IT READS IS OF BULK AT MOST 1048576: true; the input reads as it did. -/
def hostAnswersUptoRow : OpenClaim := { program := "ytjehddcgbgfhdaagreat", sum := "590b3c359198ef02b06e7c4c0e3b55582a47acc7bf750fadaf858a4aaf277472", func := "wharf/wharflaw19.HostAnswers", spec := "hostAnswers", inPlace := ["sync/atomic.AddInt64", "sync/atomic.CompareAndSwapInt64", "slices.overlaps[wharf/ring.run]", "slices.overlaps[wharf/api.Route]"], unfollowed := true, recurses := true, plainKeys := false, apart := false, narrowed := true }
def HostAnswersUptoSaid : Prop := hostAnswersUptoRow.holds Tryz.pinned (OpenSpec.upto hostAnswersSpec)

end Rows
end Go.Proofs.YtjehddcgbgfhdaaGreat
