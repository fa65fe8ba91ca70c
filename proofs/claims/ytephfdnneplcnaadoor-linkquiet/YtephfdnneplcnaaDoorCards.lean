/-
  DERIVED. GIVEN WITH THE SEED: THE CARDS: each row of YtephfdnneplcnaaDoorRows.lean that lists a variable, with what it lists TIED to the program's text (the seventh form; the later family's looks); each row that meets fmt, with fmt's text TOLD by the authors' own Lean function (tested against real Go, not proved from fmt's source: count such statements apart). THE CARD IS WHAT COUNTS. Prove the row's statement (the work); the ties are given (YtephfdnneplcnaaDoorTie.lean); close each card by the builder's one call (the guide's Derived/Test/ToyasCard.lean, 'card_holds'). Laid BY PROGRAM, IN A SANDBOX (cutbox-door.mjs). By AI agents, Wed Nov 11 2026. No macro, syntax, notation, axiom, sorry.
-/
import Derived.Test.YtephfdnneplcnaaDoorRows
import GoSem.ClaimSeven
namespace Go.Proofs.YtephfdnneplcnaaDoor
namespace Rows

/-- THE TIED CARD OF 'tilllaw14.LinkMany'. -/
def linkManyCard : Claim7 := { stood := { row := linkManyRow, standIns := [], harness := (true, "95abb75a72a69e466fd2e0ee87dafb1a3fbf6001713eb7de5e42159a0bb46dcd"), looks := false }, kinds := [], alts := [], laidByText := true, laidKinds := [.data], laidTests := true, laidLooks := .later }
def LinkManyCardSaid : Prop := Claim7.holds Tryd.pinned (.plain (OpenSpec.ofChange linkManySpec)) linkManyCard

/-- THE TIED CARD OF 'tilllaw14.LinkQuiet'. -/
def linkQuietCard : Claim7 := { stood := { row := linkQuietRow, standIns := [], harness := (true, "95abb75a72a69e466fd2e0ee87dafb1a3fbf6001713eb7de5e42159a0bb46dcd"), looks := false }, kinds := [], alts := [], laidByText := true, laidKinds := [.data], laidTests := true, laidLooks := .later }
def LinkQuietCardSaid : Prop := Claim7.holds Tryd.pinned (.plain (OpenSpec.ofChange linkQuietSpec)) linkQuietCard

/-- THE SECOND FORM's CARD OF 'tilllaw14.LinkMany'. -/
def linkManyUptoCard : Claim7 := { stood := { row := linkManyUptoRow, standIns := [], harness := (true, "95abb75a72a69e466fd2e0ee87dafb1a3fbf6001713eb7de5e42159a0bb46dcd"), looks := false }, kinds := [], alts := [], laidByText := true, laidKinds := [.data], laidTests := true, laidLooks := .later }
def LinkManyUptoCardSaid : Prop := Claim7.holds Tryd.pinned (.plain (OpenSpec.upto linkManySpec)) linkManyUptoCard

/-- THE SECOND FORM's CARD OF 'tilllaw14.LinkQuiet'. -/
def linkQuietUptoCard : Claim7 := { stood := { row := linkQuietUptoRow, standIns := [], harness := (true, "95abb75a72a69e466fd2e0ee87dafb1a3fbf6001713eb7de5e42159a0bb46dcd"), looks := false }, kinds := [], alts := [], laidByText := true, laidKinds := [.data], laidTests := true, laidLooks := .later }
def LinkQuietUptoCardSaid : Prop := Claim7.holds Tryd.pinned (.plain (OpenSpec.upto linkQuietSpec)) linkQuietUptoCard
end Rows
end Go.Proofs.YtephfdnneplcnaaDoor
