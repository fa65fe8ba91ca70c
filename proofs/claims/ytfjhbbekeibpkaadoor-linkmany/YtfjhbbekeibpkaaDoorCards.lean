/-
  DERIVED. GIVEN WITH THE SEED: THE CARDS: each row of YtfjhbbekeibpkaaDoorRows.lean that lists a variable, with what it lists TIED to the program's text (the seventh form; the later family's looks); each row that meets fmt, with fmt's text TOLD by the authors' own Lean function (tested against real Go, not proved from fmt's source: count such statements apart). THE CARD IS WHAT COUNTS. Prove the row's statement (the work); the ties are given (YtfjhbbekeibpkaaDoorTie.lean); close each card by the builder's one call (the guide's Derived/Test/ToyasCard.lean, 'card_holds'). Laid BY PROGRAM, IN A SANDBOX (cutbox-door.mjs). By AI agents, Wed Nov 11 2026. No macro, syntax, notation, axiom, sorry.
-/
import Derived.Test.YtfjhbbekeibpkaaDoorRows
import GoSem.ClaimSeven
namespace Go.Proofs.YtfjhbbekeibpkaaDoor
namespace Rows

/-- THE TIED CARD OF 'tilllaw14.LinkMany'. -/
def linkManyCard : Claim7 := { stood := { row := linkManyRow, standIns := [], harness := (true, "c696341d409bc19e957abf8cef5131704d737205c235913da7304702e665ecb2"), looks := false }, kinds := [], alts := [], laidByText := true, laidKinds := [.data], laidTests := true, laidLooks := .later }
def LinkManyCardSaid : Prop := Claim7.holds Tryd.pinned (.plain (OpenSpec.ofChange linkManySpec)) linkManyCard

/-- THE SECOND FORM's CARD OF 'tilllaw14.LinkMany'. -/
def linkManyUptoCard : Claim7 := { stood := { row := linkManyUptoRow, standIns := [], harness := (true, "c696341d409bc19e957abf8cef5131704d737205c235913da7304702e665ecb2"), looks := false }, kinds := [], alts := [], laidByText := true, laidKinds := [.data], laidTests := true, laidLooks := .later }
def LinkManyUptoCardSaid : Prop := Claim7.holds Tryd.pinned (.plain (OpenSpec.upto linkManySpec)) linkManyUptoCard
end Rows
end Go.Proofs.YtfjhbbekeibpkaaDoor
