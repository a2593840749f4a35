/-
  NARROWER THAN 'FOR EVERY INPUT', by the rows' own cells (each row's printed sentence says how): TallyNames: calm, laid · TallyPlays: calm, laid · TallyKeeps: calm, laid · TallyOfNothing: calm, laid · TallyEnds: calm, laid.
  DERIVED. THE GIVEN ROWS OF THIS SEAT. 5 by the template 'for every input the law returns true; each argument reads behind the call as it read before'; 0 by the template 'total and deterministic' (their statements: YtlhbklbmaoekmaaDoorTotals.lean).
  GIVEN WITH THE SEED: the statements are not yours to turn. If you find one false, say at which input.
  Laid BY PROGRAM, IN A SANDBOX (cutbox-rows.mjs): the forced cells as the released guide's own fill.sh prints them over the translation c57f7da2d8b5b06a… (all of the seat's roots in one cut). By AI agents, Wed Nov 11 2026. No macro, syntax, notation, axiom, sorry.
-/
import Derived.Test.YtlhbklbmaoekmaaDoorChecked
import GoSem.Claim
import GoSem.ClaimJoined
import GoSem.ClaimMapViews
import Derived.JoinedTies
import Derived.KernelRfl
namespace Go.Proofs.YtlhbklbmaoekmaaDoor
/- THE CELL 'sum', in the pinned program and in every row, IS THE sha256 OF THE DUMP (.gsa) THAT YtlhbklbmaoekmaaDoorProg.lean LOADS. Nothing in Lean hashes anything: it is a label: what it is worth is what the hold of that sum in a sandbox is worth. -/
noncomputable def Tryd.pinned : Pinned := { name := "ytlhbklbmaoekmaadoor", sum := "c57f7da2d8b5b06a513fabac18b243df2f7a1d9c03b2a8de076457fcf43fc5f7", checked := Tryd.checked }
namespace Rows
def none {H : Type} : Left H := { results := [], args := [] }

/- WHAT THE LISTED PACKAGE-LEVEL VARIABLES READ AS WHEN THE CALL BEGINS. Each datum BY PROGRAM (the guide's laid-datum.mjs) off the statement by which the dump's own 'gosem.cut.vars' lays the variable. In a bare row this is a premise. The card (YtlhbklbmaoekmaaDoorCards.lean) ties it to the program's text. -/
def laid_wharf_tally_names {H : Type} : DataW H := .agg [.lit (.string [102, 114, 97, 109, 101, 115, 32, 105, 110]), .lit (.string [102, 114, 97, 109, 101, 115, 32, 111, 117, 116]), .lit (.string [110, 111, 116, 32, 111, 117, 114, 115]), .lit (.string [109, 97, 108, 102, 111, 114, 109, 101, 100]), .lit (.string [97, 114, 112, 32, 97, 115, 107, 101, 100]), .lit (.string [97, 114, 112, 32, 108, 111, 115, 116]), .lit (.string [102, 114, 97, 103, 109, 101, 110, 116, 115]), .lit (.string [112, 117, 116, 32, 116, 111, 103, 101, 116, 104, 101, 114]), .lit (.string [110, 111, 116, 32, 114, 111, 117, 116, 101, 100]), .lit (.string [105, 99, 109, 112, 32, 116, 111, 108, 100]), .lit (.string [105, 99, 109, 112, 32, 104, 101, 108, 100]), .lit (.string [117, 100, 112, 32, 105, 110]), .lit (.string [117, 100, 112, 32, 110, 111, 32, 112, 111, 114, 116]), .lit (.string [116, 99, 112, 32, 105, 110]), .lit (.string [116, 99, 112, 32, 115, 101, 110, 116, 32, 97, 103, 97, 105, 110]), .lit (.string [116, 99, 112, 32, 114, 101, 115, 101, 116]), .lit (.string [100, 114, 111, 112, 112, 101, 100, 32, 102, 117, 108, 108])]

/-- 'wharflaw2.TallyNames': WHATEVER THE INPUT: true; the input reads as it did. -/
def tallyNamesSpec : ChangeSpec := { name := "tallyNames", fn := fun _ => fun
  | [d1, d2] => { results := [.lit (.bool true)], args := [d1, d2] }
  | _ => none }
def tallyNamesRow : OpenClaim := { program := "ytlhbklbmaoekmaadoor", sum := "c57f7da2d8b5b06a513fabac18b243df2f7a1d9c03b2a8de076457fcf43fc5f7", func := "wharf/wharflaw2.TallyNames", spec := "tallyNames", inPlace := ["sync/atomic.LoadUint32", "(*internal/sync.Mutex).Lock", "internal/race.Disable", "sync/atomic.CompareAndSwapInt32", "internal/race.Enable", "internal/race.Acquire", "(*internal/sync.Mutex).lockSlow", "internal/sync.runtime_canSpin", "internal/sync.runtime_doSpin", "internal/sync.throw", "internal/sync.runtime_nanotime", "internal/sync.runtime_SemacquireMutex", "sync/atomic.AddInt32", "(*internal/sync.Mutex).Unlock", "internal/race.ReleaseMerge", "(*internal/sync.Mutex).unlockSlow", "internal/sync.fatal", "internal/sync.runtime_Semrelease", "sync/atomic.StoreUint32", "sync/atomic.AddInt64", "sync/atomic.CompareAndSwapInt64", "sync/atomic.LoadInt64"], unfollowed := true, recurses := true, named := ["wharf/tally.names"], leaving := true, apart := false, calm := true, outside := [.timePasses], laid := [("wharf/tally.names", laid_wharf_tally_names)] }
def TallyNamesSaid : Prop := tallyNamesRow.holds Tryd.pinned (OpenSpec.ofChange tallyNamesSpec)

/-- ITS FALSE NEIGHBOUR: 'it returns false'. Refute it at one input. -/
def tallyNamesWrong : ChangeSpec := { name := "tallyNames", fn := fun _ => fun
  | [d1, d2] => { results := [.lit (.bool false)], args := [d1, d2] }
  | _ => none }
def TallyNamesWrongFalsely : Prop := tallyNamesRow.holds Tryd.pinned (OpenSpec.ofChange tallyNamesWrong)

/-- 'wharflaw2.TallyPlays': WHATEVER THE INPUT: true; the input reads as it did. -/
def tallyPlaysSpec : ChangeSpec := { name := "tallyPlays", fn := fun _ => fun
  | [d] => { results := [.lit (.bool true)], args := [d] }
  | _ => none }
def tallyPlaysRow : OpenClaim := { program := "ytlhbklbmaoekmaadoor", sum := "c57f7da2d8b5b06a513fabac18b243df2f7a1d9c03b2a8de076457fcf43fc5f7", func := "wharf/wharflaw2.TallyPlays", spec := "tallyPlays", inPlace := ["sync/atomic.AddInt64", "sync/atomic.CompareAndSwapInt64", "sync/atomic.LoadInt64", "sync/atomic.LoadUint32", "(*internal/sync.Mutex).Lock", "internal/race.Disable", "sync/atomic.CompareAndSwapInt32", "internal/race.Enable", "internal/race.Acquire", "(*internal/sync.Mutex).lockSlow", "internal/sync.runtime_canSpin", "internal/sync.runtime_doSpin", "internal/sync.throw", "internal/sync.runtime_nanotime", "internal/sync.runtime_SemacquireMutex", "sync/atomic.AddInt32", "(*internal/sync.Mutex).Unlock", "internal/race.ReleaseMerge", "(*internal/sync.Mutex).unlockSlow", "internal/sync.fatal", "internal/sync.runtime_Semrelease", "sync/atomic.StoreUint32", "(*sync.WaitGroup).Add", "internal/synctest.IsInBubble", "internal/synctest.Associate[sync.WaitGroup]", "sync.fatal", "sync/atomic.OrUint64", "sync/atomic.AddUint64", "internal/race.Read", "sync/atomic.LoadUint64", "sync/atomic.StoreUint64", "internal/synctest.Disassociate[sync.WaitGroup]", "sync.runtime_Semrelease", "(*sync.WaitGroup).Done", "(*sync.WaitGroup).Wait", "internal/synctest.IsAssociated[sync.WaitGroup]", "sync/atomic.CompareAndSwapUint64", "internal/race.Write", "sync.runtime_SemacquireWaitGroup", "sync/atomic.SwapInt64"], unfollowed := true, recurses := true, named := ["wharf/tally.names"], leaving := true, apart := false, calm := true, outside := [.timePasses], laid := [("wharf/tally.names", laid_wharf_tally_names)] }
def TallyPlaysSaid : Prop := tallyPlaysRow.holds Tryd.pinned (OpenSpec.ofChange tallyPlaysSpec)

/-- ITS FALSE NEIGHBOUR: 'it returns false'. Refute it at one input. -/
def tallyPlaysWrong : ChangeSpec := { name := "tallyPlays", fn := fun _ => fun
  | [d] => { results := [.lit (.bool false)], args := [d] }
  | _ => none }
def TallyPlaysWrongFalsely : Prop := tallyPlaysRow.holds Tryd.pinned (OpenSpec.ofChange tallyPlaysWrong)

/-- 'wharflaw2.TallyKeeps': WHATEVER THE INPUT: true; the input reads as it did. -/
def tallyKeepsSpec : ChangeSpec := { name := "tallyKeeps", fn := fun _ => fun
  | [d1, d2] => { results := [.lit (.bool true)], args := [d1, d2] }
  | _ => none }
def tallyKeepsRow : OpenClaim := { program := "ytlhbklbmaoekmaadoor", sum := "c57f7da2d8b5b06a513fabac18b243df2f7a1d9c03b2a8de076457fcf43fc5f7", func := "wharf/wharflaw2.TallyKeeps", spec := "tallyKeeps", inPlace := ["sync/atomic.AddInt64", "sync/atomic.CompareAndSwapInt64", "sync/atomic.LoadInt64", "sync/atomic.LoadUint32", "(*internal/sync.Mutex).Lock", "internal/race.Disable", "sync/atomic.CompareAndSwapInt32", "internal/race.Enable", "internal/race.Acquire", "(*internal/sync.Mutex).lockSlow", "internal/sync.runtime_canSpin", "internal/sync.runtime_doSpin", "internal/sync.throw", "internal/sync.runtime_nanotime", "internal/sync.runtime_SemacquireMutex", "sync/atomic.AddInt32", "(*internal/sync.Mutex).Unlock", "internal/race.ReleaseMerge", "(*internal/sync.Mutex).unlockSlow", "internal/sync.fatal", "internal/sync.runtime_Semrelease", "sync/atomic.StoreUint32", "(*sync.WaitGroup).Add", "internal/synctest.IsInBubble", "internal/synctest.Associate[sync.WaitGroup]", "sync.fatal", "sync/atomic.OrUint64", "sync/atomic.AddUint64", "internal/race.Read", "sync/atomic.LoadUint64", "sync/atomic.StoreUint64", "internal/synctest.Disassociate[sync.WaitGroup]", "sync.runtime_Semrelease", "(*sync.WaitGroup).Done", "(*sync.WaitGroup).Wait", "internal/synctest.IsAssociated[sync.WaitGroup]", "sync/atomic.CompareAndSwapUint64", "internal/race.Write", "sync.runtime_SemacquireWaitGroup", "sync/atomic.SwapInt64"], unfollowed := true, recurses := true, named := ["wharf/tally.names"], leaving := true, apart := false, calm := true, outside := [.timePasses], laid := [("wharf/tally.names", laid_wharf_tally_names)] }
def TallyKeepsSaid : Prop := tallyKeepsRow.holds Tryd.pinned (OpenSpec.ofChange tallyKeepsSpec)

/-- ITS FALSE NEIGHBOUR: 'it returns false'. Refute it at one input. -/
def tallyKeepsWrong : ChangeSpec := { name := "tallyKeeps", fn := fun _ => fun
  | [d1, d2] => { results := [.lit (.bool false)], args := [d1, d2] }
  | _ => none }
def TallyKeepsWrongFalsely : Prop := tallyKeepsRow.holds Tryd.pinned (OpenSpec.ofChange tallyKeepsWrong)

/-- 'wharflaw2.TallyOfNothing': WHATEVER THE INPUT: true; the input reads as it did. -/
def tallyOfNothingSpec : ChangeSpec := { name := "tallyOfNothing", fn := fun _ => fun
  | [d1, d2] => { results := [.lit (.bool true)], args := [d1, d2] }
  | _ => none }
def tallyOfNothingRow : OpenClaim := { program := "ytlhbklbmaoekmaadoor", sum := "c57f7da2d8b5b06a513fabac18b243df2f7a1d9c03b2a8de076457fcf43fc5f7", func := "wharf/wharflaw2.TallyOfNothing", spec := "tallyOfNothing", inPlace := ["sync/atomic.AddInt64", "sync/atomic.CompareAndSwapInt64", "(*sync.WaitGroup).Add", "internal/race.ReleaseMerge", "internal/race.Disable", "internal/race.Enable", "internal/synctest.IsInBubble", "internal/synctest.Associate[sync.WaitGroup]", "sync.fatal", "sync/atomic.OrUint64", "sync/atomic.AddUint64", "internal/race.Read", "sync/atomic.LoadUint64", "sync/atomic.StoreUint64", "internal/synctest.Disassociate[sync.WaitGroup]", "sync.runtime_Semrelease", "(*sync.WaitGroup).Done", "(*sync.WaitGroup).Wait", "internal/race.Acquire", "internal/synctest.IsAssociated[sync.WaitGroup]", "sync/atomic.CompareAndSwapUint64", "internal/race.Write", "sync.runtime_SemacquireWaitGroup", "sync/atomic.LoadInt64", "sync/atomic.SwapInt64", "sync/atomic.LoadUint32", "(*internal/sync.Mutex).Lock", "sync/atomic.CompareAndSwapInt32", "(*internal/sync.Mutex).lockSlow", "internal/sync.runtime_canSpin", "internal/sync.runtime_doSpin", "internal/sync.throw", "internal/sync.runtime_nanotime", "internal/sync.runtime_SemacquireMutex", "sync/atomic.AddInt32", "(*internal/sync.Mutex).Unlock", "(*internal/sync.Mutex).unlockSlow", "internal/sync.fatal", "internal/sync.runtime_Semrelease", "sync/atomic.StoreUint32"], unfollowed := true, recurses := true, named := ["wharf/tally.names"], leaving := true, apart := false, calm := true, outside := [.timePasses], laid := [("wharf/tally.names", laid_wharf_tally_names)] }
def TallyOfNothingSaid : Prop := tallyOfNothingRow.holds Tryd.pinned (OpenSpec.ofChange tallyOfNothingSpec)

/-- ITS FALSE NEIGHBOUR: 'it returns false'. Refute it at one input. -/
def tallyOfNothingWrong : ChangeSpec := { name := "tallyOfNothing", fn := fun _ => fun
  | [d1, d2] => { results := [.lit (.bool false)], args := [d1, d2] }
  | _ => none }
def TallyOfNothingWrongFalsely : Prop := tallyOfNothingRow.holds Tryd.pinned (OpenSpec.ofChange tallyOfNothingWrong)

/-- 'wharflaw2.TallyEnds': WHATEVER THE INPUT: true; the input reads as it did. -/
def tallyEndsSpec : ChangeSpec := { name := "tallyEnds", fn := fun _ => fun
  | [d1, d2] => { results := [.lit (.bool true)], args := [d1, d2] }
  | _ => none }
def tallyEndsRow : OpenClaim := { program := "ytlhbklbmaoekmaadoor", sum := "c57f7da2d8b5b06a513fabac18b243df2f7a1d9c03b2a8de076457fcf43fc5f7", func := "wharf/wharflaw2.TallyEnds", spec := "tallyEnds", inPlace := ["sync/atomic.AddInt64", "sync/atomic.CompareAndSwapInt64", "sync/atomic.LoadInt64", "sync/atomic.LoadUint32", "(*internal/sync.Mutex).Lock", "internal/race.Disable", "sync/atomic.CompareAndSwapInt32", "internal/race.Enable", "internal/race.Acquire", "(*internal/sync.Mutex).lockSlow", "internal/sync.runtime_canSpin", "internal/sync.runtime_doSpin", "internal/sync.throw", "internal/sync.runtime_nanotime", "internal/sync.runtime_SemacquireMutex", "sync/atomic.AddInt32", "(*internal/sync.Mutex).Unlock", "internal/race.ReleaseMerge", "(*internal/sync.Mutex).unlockSlow", "internal/sync.fatal", "internal/sync.runtime_Semrelease", "sync/atomic.StoreUint32"], unfollowed := true, recurses := true, named := ["wharf/tally.names"], leaving := true, apart := false, calm := true, outside := [.timePasses], laid := [("wharf/tally.names", laid_wharf_tally_names)] }
def TallyEndsSaid : Prop := tallyEndsRow.holds Tryd.pinned (OpenSpec.ofChange tallyEndsSpec)

/-- ITS FALSE NEIGHBOUR: 'it returns false'. Refute it at one input. -/
def tallyEndsWrong : ChangeSpec := { name := "tallyEnds", fn := fun _ => fun
  | [d1, d2] => { results := [.lit (.bool false)], args := [d1, d2] }
  | _ => none }
def TallyEndsWrongFalsely : Prop := tallyEndsRow.holds Tryd.pinned (OpenSpec.ofChange tallyEndsWrong)

end Rows
end Go.Proofs.YtlhbklbmaoekmaaDoor
