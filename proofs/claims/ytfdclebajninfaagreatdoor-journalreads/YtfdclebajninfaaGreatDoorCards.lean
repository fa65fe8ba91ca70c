/-
  DERIVED. GIVEN WITH THE SEED: THE CARDS: each row of YtfdclebajninfaaGreatDoorRows.lean that lists a variable, with what it lists TIED to the program's text (the seventh form; the later family's looks); each row that meets fmt, with fmt's text TOLD by the authors' own Lean function (tested against real Go, not proved from fmt's source: count such statements apart). THE CARD IS WHAT COUNTS. Prove the row's statement (the work); the ties are given (YtfdclebajninfaaGreatDoorTie.lean); close each card by the builder's one call (the guide's Derived/Test/ToyasCard.lean, 'card_holds'). Laid BY PROGRAM, IN A SANDBOX (cutbox-door.mjs). By AI agents, Wed Nov 11 2026. No macro, syntax, notation, axiom, sorry.
-/
import Derived.Test.YtfdclebajninfaaGreatDoorRows
import GoSem.ClaimSeven
namespace Go.Proofs.YtfdclebajninfaaGreatDoor
namespace Rows

/-- THE TIED CARD OF 'tilllaw5.JournalReads'. -/
def journalReadsCard : Claim7 := { stood := { row := journalReadsRow, standIns := [], harness := (true, "089ec74d9a3b409ad1d8e54278eff5c1e6431309f871dd591d4ddcd47389c33c"), looks := true }, kinds := [], alts := [], laidByText := true, laidKinds := [.data], laidTests := true, laidLooks := .later }
def JournalReadsCardSaid : Prop := Claim7.holds Tryz.pinned (.plain (OpenSpec.ofChange journalReadsSpec)) journalReadsCard

/-- THE TIED CARD OF 'tilllaw5.JournalCrashed'. -/
def journalCrashedCard : Claim7 := { stood := { row := journalCrashedRow, standIns := [], harness := (true, "089ec74d9a3b409ad1d8e54278eff5c1e6431309f871dd591d4ddcd47389c33c"), looks := true }, kinds := [], alts := [], laidByText := true, laidKinds := [.data], laidTests := true, laidLooks := .later }
def JournalCrashedCardSaid : Prop := Claim7.holds Tryz.pinned (.plain (OpenSpec.ofChange journalCrashedSpec)) journalCrashedCard

/-- THE SECOND FORM's CARD OF 'tilllaw5.JournalReads'. -/
def journalReadsUptoCard : Claim7 := { stood := { row := journalReadsUptoRow, standIns := [], harness := (true, "089ec74d9a3b409ad1d8e54278eff5c1e6431309f871dd591d4ddcd47389c33c"), looks := true }, kinds := [], alts := [], laidByText := true, laidKinds := [.data], laidTests := true, laidLooks := .later }
def JournalReadsUptoCardSaid : Prop := Claim7.holds Tryz.pinned (.plain (OpenSpec.upto journalReadsSpec)) journalReadsUptoCard

/-- THE SECOND FORM's CARD OF 'tilllaw5.JournalCrashed'. -/
def journalCrashedUptoCard : Claim7 := { stood := { row := journalCrashedUptoRow, standIns := [], harness := (true, "089ec74d9a3b409ad1d8e54278eff5c1e6431309f871dd591d4ddcd47389c33c"), looks := true }, kinds := [], alts := [], laidByText := true, laidKinds := [.data], laidTests := true, laidLooks := .later }
def JournalCrashedUptoCardSaid : Prop := Claim7.holds Tryz.pinned (.plain (OpenSpec.upto journalCrashedSpec)) journalCrashedUptoCard
end Rows
end Go.Proofs.YtfdclebajninfaaGreatDoor
