/-
  DERIVED. GIVEN WITH THE SEED: THE CARDS: each row of YtcceejdaokoihaaGreatDoorRows.lean that lists a variable, with what it lists TIED to the program's text (the seventh form; the later family's looks); each row that meets fmt, with fmt's text TOLD by the authors' own Lean function (tested against real Go, not proved from fmt's source: count such statements apart). THE CARD IS WHAT COUNTS. Prove the row's statement (the work); the ties are given (YtcceejdaokoihaaGreatDoorTie.lean); close each card by the builder's one call (the guide's Derived/Test/ToyasCard.lean, 'card_holds'). Laid BY PROGRAM, IN A SANDBOX (cutbox-door.mjs). By AI agents, Wed Nov 11 2026. No macro, syntax, notation, axiom, sorry.
-/
import Derived.Test.YtcceejdaokoihaaGreatDoorRows
import GoSem.ClaimSeven
namespace Go.Proofs.YtcceejdaokoihaaGreatDoor
namespace Rows

/-- THE TIED CARD OF 'tilllaw5.JournalExact'. -/
def journalExactCard : Claim7 := { stood := { row := journalExactRow, standIns := [], harness := (true, "402eef0e5e1abfaa503ff1092bed9f9612e5009f55a45cb23d6573df3dacaf98"), looks := true }, kinds := [], alts := [], laidByText := true, laidKinds := [.data], laidTests := true, laidLooks := .later }
def JournalExactCardSaid : Prop := Claim7.holds Tryz.pinned (.plain (OpenSpec.ofChange journalExactSpec)) journalExactCard

/-- THE TIED CARD OF 'tilllaw5.JournalAdds'. -/
def journalAddsCard : Claim7 := { stood := { row := journalAddsRow, standIns := [], harness := (true, "402eef0e5e1abfaa503ff1092bed9f9612e5009f55a45cb23d6573df3dacaf98"), looks := true }, kinds := [], alts := [], laidByText := true, laidKinds := [.data], laidTests := true, laidLooks := .later }
def JournalAddsCardSaid : Prop := Claim7.holds Tryz.pinned (.plain (OpenSpec.ofChange journalAddsSpec)) journalAddsCard

/-- THE TIED CARD OF 'tilllaw5.JournalTells'. -/
def journalTellsCard : Claim7 := { stood := { row := journalTellsRow, standIns := [], harness := (true, "402eef0e5e1abfaa503ff1092bed9f9612e5009f55a45cb23d6573df3dacaf98"), looks := true }, kinds := [], alts := [], laidByText := true, laidKinds := [.data], laidTests := true, laidLooks := .later }
def JournalTellsCardSaid : Prop := Claim7.holds Tryz.pinned (.plain (OpenSpec.ofChange journalTellsSpec)) journalTellsCard

/-- THE SECOND FORM's CARD OF 'tilllaw5.JournalExact'. -/
def journalExactUptoCard : Claim7 := { stood := { row := journalExactUptoRow, standIns := [], harness := (true, "402eef0e5e1abfaa503ff1092bed9f9612e5009f55a45cb23d6573df3dacaf98"), looks := true }, kinds := [], alts := [], laidByText := true, laidKinds := [.data], laidTests := true, laidLooks := .later }
def JournalExactUptoCardSaid : Prop := Claim7.holds Tryz.pinned (.plain (OpenSpec.upto journalExactSpec)) journalExactUptoCard

/-- THE SECOND FORM's CARD OF 'tilllaw5.JournalAdds'. -/
def journalAddsUptoCard : Claim7 := { stood := { row := journalAddsUptoRow, standIns := [], harness := (true, "402eef0e5e1abfaa503ff1092bed9f9612e5009f55a45cb23d6573df3dacaf98"), looks := true }, kinds := [], alts := [], laidByText := true, laidKinds := [.data], laidTests := true, laidLooks := .later }
def JournalAddsUptoCardSaid : Prop := Claim7.holds Tryz.pinned (.plain (OpenSpec.upto journalAddsSpec)) journalAddsUptoCard

/-- THE SECOND FORM's CARD OF 'tilllaw5.JournalTells'. -/
def journalTellsUptoCard : Claim7 := { stood := { row := journalTellsUptoRow, standIns := [], harness := (true, "402eef0e5e1abfaa503ff1092bed9f9612e5009f55a45cb23d6573df3dacaf98"), looks := true }, kinds := [], alts := [], laidByText := true, laidKinds := [.data], laidTests := true, laidLooks := .later }
def JournalTellsUptoCardSaid : Prop := Claim7.holds Tryz.pinned (.plain (OpenSpec.upto journalTellsSpec)) journalTellsUptoCard
end Rows
end Go.Proofs.YtcceejdaokoihaaGreatDoor
