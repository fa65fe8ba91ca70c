/-
  DERIVED. GIVEN WITH THE SEED: THE CARDS: each row of YtlnldipiofddkabDoorRows.lean that lists a variable, with what it lists TIED to the program's text (the seventh form; the later family's looks); each row that meets fmt, with fmt's text TOLD by the authors' own Lean function (tested against real Go, not proved from fmt's source: count such statements apart). THE CARD IS WHAT COUNTS. Prove the row's statement (the work); the ties are given (YtlnldipiofddkabDoorTie.lean); close each card by the builder's one call (the guide's Derived/Test/ToyasCard.lean, 'card_holds'). Laid BY PROGRAM, IN A SANDBOX (cutbox-door.mjs). By AI agents, Wed Nov 11 2026. No macro, syntax, notation, axiom, sorry.
-/
import Derived.Test.YtlnldipiofddkabDoorRows
import GoSem.ClaimSeven
namespace Go.Proofs.YtlnldipiofddkabDoor
namespace Rows

/-- THE TIED CARD OF 'tilllaw1.CodeSums'. -/
def codeSumsCard : Claim7 := { stood := { row := codeSumsRow, standIns := [], harness := (true, "eb9a370f6793770718dcc8f867324191ca67598da38cc102e7bf5aa34cf65142"), looks := false }, kinds := [], alts := [], laidByText := true, laidKinds := [.data], laidTests := true, laidLooks := .later }
def CodeSumsCardSaid : Prop := Claim7.holds Tryd.pinned (.plain (OpenSpec.ofChange codeSumsSpec)) codeSumsCard

/-- THE TIED CARD OF 'tilllaw1.CodeTold'. -/
def codeToldCard : Claim7 := { stood := { row := codeToldRow, standIns := [], harness := (true, "eb9a370f6793770718dcc8f867324191ca67598da38cc102e7bf5aa34cf65142"), looks := false }, kinds := [], alts := [], laidByText := true, laidKinds := [.data], laidTests := true, laidLooks := .later }
def CodeToldCardSaid : Prop := Claim7.holds Tryd.pinned (.plain (OpenSpec.ofChange codeToldSpec)) codeToldCard

/-- THE TIED CARD OF 'tilllaw1.CodeMixed'. -/
def codeMixedCard : Claim7 := { stood := { row := codeMixedRow, standIns := [], harness := (true, "eb9a370f6793770718dcc8f867324191ca67598da38cc102e7bf5aa34cf65142"), looks := false }, kinds := [], alts := [], laidByText := true, laidKinds := [.data], laidTests := true, laidLooks := .later }
def CodeMixedCardSaid : Prop := Claim7.holds Tryd.pinned (.plain (OpenSpec.ofChange codeMixedSpec)) codeMixedCard

/-- THE SECOND FORM's CARD OF 'tilllaw1.CodeSums'. -/
def codeSumsUptoCard : Claim7 := { stood := { row := codeSumsUptoRow, standIns := [], harness := (true, "eb9a370f6793770718dcc8f867324191ca67598da38cc102e7bf5aa34cf65142"), looks := false }, kinds := [], alts := [], laidByText := true, laidKinds := [.data], laidTests := true, laidLooks := .later }
def CodeSumsUptoCardSaid : Prop := Claim7.holds Tryd.pinned (.plain (OpenSpec.upto codeSumsSpec)) codeSumsUptoCard

/-- THE SECOND FORM's CARD OF 'tilllaw1.CodeTold'. -/
def codeToldUptoCard : Claim7 := { stood := { row := codeToldUptoRow, standIns := [], harness := (true, "eb9a370f6793770718dcc8f867324191ca67598da38cc102e7bf5aa34cf65142"), looks := false }, kinds := [], alts := [], laidByText := true, laidKinds := [.data], laidTests := true, laidLooks := .later }
def CodeToldUptoCardSaid : Prop := Claim7.holds Tryd.pinned (.plain (OpenSpec.upto codeToldSpec)) codeToldUptoCard

/-- THE SECOND FORM's CARD OF 'tilllaw1.CodeMixed'. -/
def codeMixedUptoCard : Claim7 := { stood := { row := codeMixedUptoRow, standIns := [], harness := (true, "eb9a370f6793770718dcc8f867324191ca67598da38cc102e7bf5aa34cf65142"), looks := false }, kinds := [], alts := [], laidByText := true, laidKinds := [.data], laidTests := true, laidLooks := .later }
def CodeMixedUptoCardSaid : Prop := Claim7.holds Tryd.pinned (.plain (OpenSpec.upto codeMixedSpec)) codeMixedUptoCard
end Rows
end Go.Proofs.YtlnldipiofddkabDoor
