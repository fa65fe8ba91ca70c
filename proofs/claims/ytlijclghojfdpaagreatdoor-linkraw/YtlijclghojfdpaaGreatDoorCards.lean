/-
  DERIVED. GIVEN WITH THE SEED: THE CARDS: each row of YtlijclghojfdpaaGreatDoorRows.lean that lists a variable, with what it lists TIED to the program's text (the seventh form; the later family's looks); each row that meets fmt, with fmt's text TOLD by the authors' own Lean function (tested against real Go, not proved from fmt's source: count such statements apart). THE CARD IS WHAT COUNTS. Prove the row's statement (the work); the ties are given (YtlijclghojfdpaaGreatDoorTie.lean); close each card by the builder's one call (the guide's Derived/Test/ToyasCard.lean, 'card_holds'). Laid BY PROGRAM, IN A SANDBOX (cutbox-door.mjs). By AI agents, Wed Nov 11 2026. No macro, syntax, notation, axiom, sorry.
-/
import Derived.Test.YtlijclghojfdpaaGreatDoorRows
import GoSem.ClaimSeven
namespace Go.Proofs.YtlijclghojfdpaaGreatDoor
namespace Rows

/-- THE TIED CARD OF 'tilllaw14.LinkRaw'. -/
def linkRawCard : Claim7 := { stood := { row := linkRawRow, standIns := [], harness := (true, "b9fdc3e2ca29d724385a1782426c81415fe8a72a42c861864f6ca6bd4d4bf003"), looks := false }, kinds := [], alts := [], laidByText := true, laidKinds := [.data], laidTests := true, laidLooks := .later }
def LinkRawCardSaid : Prop := Claim7.holds Tryz.pinned (.plain (OpenSpec.ofChange linkRawSpec)) linkRawCard

/-- THE SECOND FORM's CARD OF 'tilllaw14.LinkRaw'. -/
def linkRawUptoCard : Claim7 := { stood := { row := linkRawUptoRow, standIns := [], harness := (true, "b9fdc3e2ca29d724385a1782426c81415fe8a72a42c861864f6ca6bd4d4bf003"), looks := false }, kinds := [], alts := [], laidByText := true, laidKinds := [.data], laidTests := true, laidLooks := .later }
def LinkRawUptoCardSaid : Prop := Claim7.holds Tryz.pinned (.plain (OpenSpec.upto linkRawSpec)) linkRawUptoCard
end Rows
end Go.Proofs.YtlijclghojfdpaaGreatDoor
