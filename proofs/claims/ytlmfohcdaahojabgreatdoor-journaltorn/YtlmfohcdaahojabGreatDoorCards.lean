/-
  DERIVED. GIVEN WITH THE SEED: THE CARDS: each row of YtlmfohcdaahojabGreatDoorRows.lean that lists a variable, with what it lists TIED to the program's text (the seventh form; the later family's looks); each row that meets fmt, with fmt's text TOLD by the authors' own Lean function (tested against real Go, not proved from fmt's source: count such statements apart). THE CARD IS WHAT COUNTS. Prove the row's statement (the work); the ties are given (YtlmfohcdaahojabGreatDoorTie.lean); close each card by the builder's one call (the guide's Derived/Test/ToyasCard.lean, 'card_holds'). Laid BY PROGRAM, IN A SANDBOX (cutbox-door.mjs). By AI agents, Wed Nov 11 2026. No macro, syntax, notation, axiom, sorry.
-/
import Derived.Test.YtlmfohcdaahojabGreatDoorRows
import GoSem.ClaimSeven
namespace Go.Proofs.YtlmfohcdaahojabGreatDoor
namespace Rows

/-- THE TIED CARD OF 'tilllaw5.JournalFull'. -/
def journalFullCard : Claim7 := { stood := { row := journalFullRow, standIns := [], harness := (true, "5663392fa8ce330459f9689cb44b723e859f694d2a6375070218e133fedc9784"), looks := true }, kinds := [], alts := [], laidByText := true, laidKinds := [.data], laidTests := true, laidLooks := .later }
def JournalFullCardSaid : Prop := Claim7.holds Tryz.pinned (.plain (OpenSpec.ofChange journalFullSpec)) journalFullCard

/-- THE TIED CARD OF 'tilllaw5.JournalTorn'. -/
def journalTornCard : Claim7 := { stood := { row := journalTornRow, standIns := [], harness := (true, "5663392fa8ce330459f9689cb44b723e859f694d2a6375070218e133fedc9784"), looks := true }, kinds := [], alts := [], laidByText := true, laidKinds := [.data], laidTests := true, laidLooks := .later }
def JournalTornCardSaid : Prop := Claim7.holds Tryz.pinned (.plain (OpenSpec.ofChange journalTornSpec)) journalTornCard

/-- THE TIED CARD OF 'tilllaw5.JournalHurt'. -/
def journalHurtCard : Claim7 := { stood := { row := journalHurtRow, standIns := [], harness := (true, "5663392fa8ce330459f9689cb44b723e859f694d2a6375070218e133fedc9784"), looks := true }, kinds := [], alts := [], laidByText := true, laidKinds := [.data], laidTests := true, laidLooks := .later }
def JournalHurtCardSaid : Prop := Claim7.holds Tryz.pinned (.plain (OpenSpec.ofChange journalHurtSpec)) journalHurtCard

/-- THE TIED CARD OF 'tilllaw5.JournalPair'. -/
def journalPairCard : Claim7 := { stood := { row := journalPairRow, standIns := [], harness := (true, "5663392fa8ce330459f9689cb44b723e859f694d2a6375070218e133fedc9784"), looks := true }, kinds := [], alts := [], laidByText := true, laidKinds := [.data], laidTests := true, laidLooks := .later }
def JournalPairCardSaid : Prop := Claim7.holds Tryz.pinned (.plain (OpenSpec.ofChange journalPairSpec)) journalPairCard

/-- THE SECOND FORM's CARD OF 'tilllaw5.JournalFull'. -/
def journalFullUptoCard : Claim7 := { stood := { row := journalFullUptoRow, standIns := [], harness := (true, "5663392fa8ce330459f9689cb44b723e859f694d2a6375070218e133fedc9784"), looks := true }, kinds := [], alts := [], laidByText := true, laidKinds := [.data], laidTests := true, laidLooks := .later }
def JournalFullUptoCardSaid : Prop := Claim7.holds Tryz.pinned (.plain (OpenSpec.upto journalFullSpec)) journalFullUptoCard

/-- THE SECOND FORM's CARD OF 'tilllaw5.JournalTorn'. -/
def journalTornUptoCard : Claim7 := { stood := { row := journalTornUptoRow, standIns := [], harness := (true, "5663392fa8ce330459f9689cb44b723e859f694d2a6375070218e133fedc9784"), looks := true }, kinds := [], alts := [], laidByText := true, laidKinds := [.data], laidTests := true, laidLooks := .later }
def JournalTornUptoCardSaid : Prop := Claim7.holds Tryz.pinned (.plain (OpenSpec.upto journalTornSpec)) journalTornUptoCard

/-- THE SECOND FORM's CARD OF 'tilllaw5.JournalHurt'. -/
def journalHurtUptoCard : Claim7 := { stood := { row := journalHurtUptoRow, standIns := [], harness := (true, "5663392fa8ce330459f9689cb44b723e859f694d2a6375070218e133fedc9784"), looks := true }, kinds := [], alts := [], laidByText := true, laidKinds := [.data], laidTests := true, laidLooks := .later }
def JournalHurtUptoCardSaid : Prop := Claim7.holds Tryz.pinned (.plain (OpenSpec.upto journalHurtSpec)) journalHurtUptoCard

/-- THE SECOND FORM's CARD OF 'tilllaw5.JournalPair'. -/
def journalPairUptoCard : Claim7 := { stood := { row := journalPairUptoRow, standIns := [], harness := (true, "5663392fa8ce330459f9689cb44b723e859f694d2a6375070218e133fedc9784"), looks := true }, kinds := [], alts := [], laidByText := true, laidKinds := [.data], laidTests := true, laidLooks := .later }
def JournalPairUptoCardSaid : Prop := Claim7.holds Tryz.pinned (.plain (OpenSpec.upto journalPairSpec)) journalPairUptoCard
end Rows
end Go.Proofs.YtlmfohcdaahojabGreatDoor
