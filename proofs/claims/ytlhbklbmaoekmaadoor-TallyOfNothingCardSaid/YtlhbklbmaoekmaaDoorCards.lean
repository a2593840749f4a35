/-
  DERIVED. GIVEN WITH THE SEED: THE CARDS: each row of YtlhbklbmaoekmaaDoorRows.lean that lists a variable, with what it lists TIED to the program's text (the seventh form; the later family's looks); each row that meets fmt, with fmt's text TOLD by the authors' own Lean function (tested against real Go, not proved from fmt's source: count such statements apart). THE CARD IS WHAT COUNTS. Prove the row's statement (the work); the ties are given (YtlhbklbmaoekmaaDoorTie.lean); close each card by the builder's one call (the guide's Derived/Test/ToyasCard.lean, 'card_holds'). Laid BY PROGRAM, IN A SANDBOX (cutbox-door.mjs). By AI agents, Wed Nov 11 2026. No macro, syntax, notation, axiom, sorry.
-/
import Derived.Test.YtlhbklbmaoekmaaDoorRows
import GoSem.ClaimSeven
namespace Go.Proofs.YtlhbklbmaoekmaaDoor
namespace Rows

/-- THE TIED CARD OF 'wharflaw2.TallyNames'. -/
def tallyNamesCard : Claim7 := { stood := { row := tallyNamesRow, standIns := [], harness := (true, "4420dac025338eb1bc641a2b1c4b7eedf5f5c04f3cccc7a5e96300577207e23a"), looks := false }, kinds := [], alts := [], goes := true, laidByText := true, laidKinds := [.data], laidTests := true, laidLooks := .later }
def TallyNamesCardSaid : Prop := Claim7.holds Tryd.pinned (.plain (OpenSpec.ofChange tallyNamesSpec)) tallyNamesCard

/-- THE TIED CARD OF 'wharflaw2.TallyPlays'. -/
def tallyPlaysCard : Claim7 := { stood := { row := tallyPlaysRow, standIns := [], harness := (true, "4420dac025338eb1bc641a2b1c4b7eedf5f5c04f3cccc7a5e96300577207e23a"), looks := false }, kinds := [], alts := [], goes := true, laidByText := true, laidKinds := [.data], laidTests := true, laidLooks := .later }
def TallyPlaysCardSaid : Prop := Claim7.holds Tryd.pinned (.plain (OpenSpec.ofChange tallyPlaysSpec)) tallyPlaysCard

/-- THE TIED CARD OF 'wharflaw2.TallyKeeps'. -/
def tallyKeepsCard : Claim7 := { stood := { row := tallyKeepsRow, standIns := [], harness := (true, "4420dac025338eb1bc641a2b1c4b7eedf5f5c04f3cccc7a5e96300577207e23a"), looks := false }, kinds := [], alts := [], goes := true, laidByText := true, laidKinds := [.data], laidTests := true, laidLooks := .later }
def TallyKeepsCardSaid : Prop := Claim7.holds Tryd.pinned (.plain (OpenSpec.ofChange tallyKeepsSpec)) tallyKeepsCard

/-- THE TIED CARD OF 'wharflaw2.TallyOfNothing'. -/
def tallyOfNothingCard : Claim7 := { stood := { row := tallyOfNothingRow, standIns := [], harness := (true, "4420dac025338eb1bc641a2b1c4b7eedf5f5c04f3cccc7a5e96300577207e23a"), looks := false }, kinds := [], alts := [], goes := true, laidByText := true, laidKinds := [.data], laidTests := true, laidLooks := .later }
def TallyOfNothingCardSaid : Prop := Claim7.holds Tryd.pinned (.plain (OpenSpec.ofChange tallyOfNothingSpec)) tallyOfNothingCard

/-- THE TIED CARD OF 'wharflaw2.TallyEnds'. -/
def tallyEndsCard : Claim7 := { stood := { row := tallyEndsRow, standIns := [], harness := (true, "4420dac025338eb1bc641a2b1c4b7eedf5f5c04f3cccc7a5e96300577207e23a"), looks := false }, kinds := [], alts := [], goes := true, laidByText := true, laidKinds := [.data], laidTests := true, laidLooks := .later }
def TallyEndsCardSaid : Prop := Claim7.holds Tryd.pinned (.plain (OpenSpec.ofChange tallyEndsSpec)) tallyEndsCard
end Rows
end Go.Proofs.YtlhbklbmaoekmaaDoor
