/-
  DERIVED. GIVEN WITH THE SEED: THE CARDS: each row of YtjcdnclfakmbpaaGreatDoorRows.lean that lists a variable, with what it lists TIED to the program's text (the seventh form; the later family's looks); each row that meets fmt, with fmt's text TOLD by the authors' own Lean function (tested against real Go, not proved from fmt's source: count such statements apart). THE CARD IS WHAT COUNTS. Prove the row's statement (the work); the ties are given (YtjcdnclfakmbpaaGreatDoorTie.lean); close each card by the builder's one call (the guide's Derived/Test/ToyasCard.lean, 'card_holds'). Laid BY PROGRAM, IN A SANDBOX (cutbox-door.mjs). By AI agents, Wed Nov 11 2026. No macro, syntax, notation, axiom, sorry.
-/
import Derived.Test.YtjcdnclfakmbpaaGreatDoorRows
import GoSem.ClaimSeven
namespace Go.Proofs.YtjcdnclfakmbpaaGreatDoor
namespace Rows

/-- THE TIED CARD OF 'tilllaw14.LinkExact'. -/
def linkExactCard : Claim7 := { stood := { row := linkExactRow, standIns := [], harness := (true, "08fddd2b880cfe6d3969e4fdd329e73b414066046a3b20b1fcd18b43610b0540"), looks := false }, kinds := [], alts := [], laidByText := true, laidKinds := [.data], laidTests := true, laidLooks := .later }
def LinkExactCardSaid : Prop := Claim7.holds Tryz.pinned (.plain (OpenSpec.ofChange linkExactSpec)) linkExactCard

/-- THE SECOND FORM's CARD OF 'tilllaw14.LinkExact'. -/
def linkExactUptoCard : Claim7 := { stood := { row := linkExactUptoRow, standIns := [], harness := (true, "08fddd2b880cfe6d3969e4fdd329e73b414066046a3b20b1fcd18b43610b0540"), looks := false }, kinds := [], alts := [], laidByText := true, laidKinds := [.data], laidTests := true, laidLooks := .later }
def LinkExactUptoCardSaid : Prop := Claim7.holds Tryz.pinned (.plain (OpenSpec.upto linkExactSpec)) linkExactUptoCard
end Rows
end Go.Proofs.YtjcdnclfakmbpaaGreatDoor
