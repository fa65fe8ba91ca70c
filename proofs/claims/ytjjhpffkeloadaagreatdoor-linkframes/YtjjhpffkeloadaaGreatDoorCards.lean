/-
  DERIVED. GIVEN WITH THE SEED: THE CARDS: each row of YtjjhpffkeloadaaGreatDoorRows.lean that lists a variable, with what it lists TIED to the program's text (the seventh form; the later family's looks); each row that meets fmt, with fmt's text TOLD by the authors' own Lean function (tested against real Go, not proved from fmt's source: count such statements apart). THE CARD IS WHAT COUNTS. Prove the row's statement (the work); the ties are given (YtjjhpffkeloadaaGreatDoorTie.lean); close each card by the builder's one call (the guide's Derived/Test/ToyasCard.lean, 'card_holds'). Laid BY PROGRAM, IN A SANDBOX (cutbox-door.mjs). By AI agents, Wed Nov 11 2026. No macro, syntax, notation, axiom, sorry.
-/
import Derived.Test.YtjjhpffkeloadaaGreatDoorRows
import GoSem.ClaimSeven
namespace Go.Proofs.YtjjhpffkeloadaaGreatDoor
namespace Rows

/-- THE TIED CARD OF 'tilllaw14.LinkFrames'. -/
def linkFramesCard : Claim7 := { stood := { row := linkFramesRow, standIns := [], harness := (true, "fbe07ea22f06426aa382353323d720e02b01204072d9d20af85f5e86dbad82c2"), looks := false }, kinds := [], alts := [], laidByText := true, laidKinds := [.data], laidTests := true, laidLooks := .later }
def LinkFramesCardSaid : Prop := Claim7.holds Tryz.pinned (.plain (OpenSpec.ofChange linkFramesSpec)) linkFramesCard

/-- THE SECOND FORM's CARD OF 'tilllaw14.LinkFrames'. -/
def linkFramesUptoCard : Claim7 := { stood := { row := linkFramesUptoRow, standIns := [], harness := (true, "fbe07ea22f06426aa382353323d720e02b01204072d9d20af85f5e86dbad82c2"), looks := false }, kinds := [], alts := [], laidByText := true, laidKinds := [.data], laidTests := true, laidLooks := .later }
def LinkFramesUptoCardSaid : Prop := Claim7.holds Tryz.pinned (.plain (OpenSpec.upto linkFramesSpec)) linkFramesUptoCard
end Rows
end Go.Proofs.YtjjhpffkeloadaaGreatDoor
