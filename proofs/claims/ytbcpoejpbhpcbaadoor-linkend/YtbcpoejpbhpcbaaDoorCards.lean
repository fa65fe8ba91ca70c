/-
  DERIVED. GIVEN WITH THE SEED: THE CARDS: each row of YtbcpoejpbhpcbaaDoorRows.lean that lists a variable, with what it lists TIED to the program's text (the seventh form; the later family's looks); each row that meets fmt, with fmt's text TOLD by the authors' own Lean function (tested against real Go, not proved from fmt's source: count such statements apart). THE CARD IS WHAT COUNTS. Prove the row's statement (the work); the ties are given (YtbcpoejpbhpcbaaDoorTie.lean); close each card by the builder's one call (the guide's Derived/Test/ToyasCard.lean, 'card_holds'). Laid BY PROGRAM, IN A SANDBOX (cutbox-door.mjs). By AI agents, Wed Nov 11 2026. No macro, syntax, notation, axiom, sorry.
-/
import Derived.Test.YtbcpoejpbhpcbaaDoorRows
import GoSem.ClaimSeven
namespace Go.Proofs.YtbcpoejpbhpcbaaDoor
namespace Rows

/-- THE TIED CARD OF 'tilllaw14.LinkSessions'. -/
def linkSessionsCard : Claim7 := { stood := { row := linkSessionsRow, standIns := [], harness := (true, "4c87c6268775f6e703f9c654d50b0e035f5f4243f033591b982ed78c8df66b1a"), looks := false }, kinds := [], alts := [], laidByText := true, laidKinds := [.data], laidTests := true, laidLooks := .later }
def LinkSessionsCardSaid : Prop := Claim7.holds Tryd.pinned (.plain (OpenSpec.ofChange linkSessionsSpec)) linkSessionsCard

/-- THE TIED CARD OF 'tilllaw14.LinkEnd'. -/
def linkEndCard : Claim7 := { stood := { row := linkEndRow, standIns := [], harness := (true, "4c87c6268775f6e703f9c654d50b0e035f5f4243f033591b982ed78c8df66b1a"), looks := false }, kinds := [], alts := [], laidByText := true, laidKinds := [.data], laidTests := true, laidLooks := .later }
def LinkEndCardSaid : Prop := Claim7.holds Tryd.pinned (.plain (OpenSpec.ofChange linkEndSpec)) linkEndCard

/-- THE SECOND FORM's CARD OF 'tilllaw14.LinkSessions'. -/
def linkSessionsUptoCard : Claim7 := { stood := { row := linkSessionsUptoRow, standIns := [], harness := (true, "4c87c6268775f6e703f9c654d50b0e035f5f4243f033591b982ed78c8df66b1a"), looks := false }, kinds := [], alts := [], laidByText := true, laidKinds := [.data], laidTests := true, laidLooks := .later }
def LinkSessionsUptoCardSaid : Prop := Claim7.holds Tryd.pinned (.plain (OpenSpec.upto linkSessionsSpec)) linkSessionsUptoCard

/-- THE SECOND FORM's CARD OF 'tilllaw14.LinkEnd'. -/
def linkEndUptoCard : Claim7 := { stood := { row := linkEndUptoRow, standIns := [], harness := (true, "4c87c6268775f6e703f9c654d50b0e035f5f4243f033591b982ed78c8df66b1a"), looks := false }, kinds := [], alts := [], laidByText := true, laidKinds := [.data], laidTests := true, laidLooks := .later }
def LinkEndUptoCardSaid : Prop := Claim7.holds Tryd.pinned (.plain (OpenSpec.upto linkEndSpec)) linkEndUptoCard
end Rows
end Go.Proofs.YtbcpoejpbhpcbaaDoor
