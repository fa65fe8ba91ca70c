/-
  DERIVED. GIVEN WITH THE SEED: THE CARDS: each row of YtlmfohcdaahojaaGreatDoorRows.lean that lists a variable, with what it lists TIED to the program's text (the seventh form; the later family's looks); each row that meets fmt, with fmt's text TOLD by the authors' own Lean function (tested against real Go, not proved from fmt's source: count such statements apart). THE CARD IS WHAT COUNTS. Prove the row's statement (the work); the ties are given (YtlmfohcdaahojaaGreatDoorTie.lean); close each card by the builder's one call (the guide's Derived/Test/ToyasCard.lean, 'card_holds'). Laid BY PROGRAM, IN A SANDBOX (cutbox-door.mjs). By AI agents, Wed Nov 11 2026. No macro, syntax, notation, axiom, sorry.
-/
import Derived.Test.YtlmfohcdaahojaaGreatDoorRows
import GoSem.ClaimSeven
namespace Go.Proofs.YtlmfohcdaahojaaGreatDoor
namespace Rows

/-- THE TIED CARD OF 'tilllaw5.JournalExact'. -/
def journalExactCard : Claim7 := { stood := { row := journalExactRow, standIns := [], harness := (true, "f5bdaedfd644014dfd46a0b94ce76770629a757a74949fafc5db5021044726fe"), looks := true }, kinds := [], alts := [], laidByText := true, laidKinds := [.data], laidTests := true, laidLooks := .later }
def JournalExactCardSaid : Prop := Claim7.holds Tryz.pinned (.plain (OpenSpec.ofChange journalExactSpec)) journalExactCard

/-- THE TIED CARD OF 'tilllaw5.JournalAdds'. -/
def journalAddsCard : Claim7 := { stood := { row := journalAddsRow, standIns := [], harness := (true, "f5bdaedfd644014dfd46a0b94ce76770629a757a74949fafc5db5021044726fe"), looks := true }, kinds := [], alts := [], laidByText := true, laidKinds := [.data], laidTests := true, laidLooks := .later }
def JournalAddsCardSaid : Prop := Claim7.holds Tryz.pinned (.plain (OpenSpec.ofChange journalAddsSpec)) journalAddsCard

/-- THE TIED CARD OF 'tilllaw5.JournalTells'. -/
def journalTellsCard : Claim7 := { stood := { row := journalTellsRow, standIns := [], harness := (true, "f5bdaedfd644014dfd46a0b94ce76770629a757a74949fafc5db5021044726fe"), looks := true }, kinds := [], alts := [], laidByText := true, laidKinds := [.data], laidTests := true, laidLooks := .later }
def JournalTellsCardSaid : Prop := Claim7.holds Tryz.pinned (.plain (OpenSpec.ofChange journalTellsSpec)) journalTellsCard

/-- THE TIED CARD OF 'tilllaw5.JournalReads'. -/
def journalReadsCard : Claim7 := { stood := { row := journalReadsRow, standIns := [], harness := (true, "f5bdaedfd644014dfd46a0b94ce76770629a757a74949fafc5db5021044726fe"), looks := true }, kinds := [], alts := [], laidByText := true, laidKinds := [.data], laidTests := true, laidLooks := .later }
def JournalReadsCardSaid : Prop := Claim7.holds Tryz.pinned (.plain (OpenSpec.ofChange journalReadsSpec)) journalReadsCard

/-- THE TIED CARD OF 'tilllaw5.JournalLent'. -/
def journalLentCard : Claim7 := { stood := { row := journalLentRow, standIns := [], harness := (true, "f5bdaedfd644014dfd46a0b94ce76770629a757a74949fafc5db5021044726fe"), looks := true }, kinds := [], alts := [], laidByText := true, laidKinds := [.data], laidTests := true, laidLooks := .later }
def JournalLentCardSaid : Prop := Claim7.holds Tryz.pinned (.plain (OpenSpec.ofChange journalLentSpec)) journalLentCard

/-- THE TIED CARD OF 'tilllaw5.JournalCrashed'. -/
def journalCrashedCard : Claim7 := { stood := { row := journalCrashedRow, standIns := [], harness := (true, "f5bdaedfd644014dfd46a0b94ce76770629a757a74949fafc5db5021044726fe"), looks := true }, kinds := [], alts := [], laidByText := true, laidKinds := [.data], laidTests := true, laidLooks := .later }
def JournalCrashedCardSaid : Prop := Claim7.holds Tryz.pinned (.plain (OpenSpec.ofChange journalCrashedSpec)) journalCrashedCard

/-- THE SECOND FORM's CARD OF 'tilllaw5.JournalExact'. -/
def journalExactUptoCard : Claim7 := { stood := { row := journalExactUptoRow, standIns := [], harness := (true, "f5bdaedfd644014dfd46a0b94ce76770629a757a74949fafc5db5021044726fe"), looks := true }, kinds := [], alts := [], laidByText := true, laidKinds := [.data], laidTests := true, laidLooks := .later }
def JournalExactUptoCardSaid : Prop := Claim7.holds Tryz.pinned (.plain (OpenSpec.upto journalExactSpec)) journalExactUptoCard

/-- THE SECOND FORM's CARD OF 'tilllaw5.JournalAdds'. -/
def journalAddsUptoCard : Claim7 := { stood := { row := journalAddsUptoRow, standIns := [], harness := (true, "f5bdaedfd644014dfd46a0b94ce76770629a757a74949fafc5db5021044726fe"), looks := true }, kinds := [], alts := [], laidByText := true, laidKinds := [.data], laidTests := true, laidLooks := .later }
def JournalAddsUptoCardSaid : Prop := Claim7.holds Tryz.pinned (.plain (OpenSpec.upto journalAddsSpec)) journalAddsUptoCard

/-- THE SECOND FORM's CARD OF 'tilllaw5.JournalTells'. -/
def journalTellsUptoCard : Claim7 := { stood := { row := journalTellsUptoRow, standIns := [], harness := (true, "f5bdaedfd644014dfd46a0b94ce76770629a757a74949fafc5db5021044726fe"), looks := true }, kinds := [], alts := [], laidByText := true, laidKinds := [.data], laidTests := true, laidLooks := .later }
def JournalTellsUptoCardSaid : Prop := Claim7.holds Tryz.pinned (.plain (OpenSpec.upto journalTellsSpec)) journalTellsUptoCard

/-- THE SECOND FORM's CARD OF 'tilllaw5.JournalReads'. -/
def journalReadsUptoCard : Claim7 := { stood := { row := journalReadsUptoRow, standIns := [], harness := (true, "f5bdaedfd644014dfd46a0b94ce76770629a757a74949fafc5db5021044726fe"), looks := true }, kinds := [], alts := [], laidByText := true, laidKinds := [.data], laidTests := true, laidLooks := .later }
def JournalReadsUptoCardSaid : Prop := Claim7.holds Tryz.pinned (.plain (OpenSpec.upto journalReadsSpec)) journalReadsUptoCard

/-- THE SECOND FORM's CARD OF 'tilllaw5.JournalLent'. -/
def journalLentUptoCard : Claim7 := { stood := { row := journalLentUptoRow, standIns := [], harness := (true, "f5bdaedfd644014dfd46a0b94ce76770629a757a74949fafc5db5021044726fe"), looks := true }, kinds := [], alts := [], laidByText := true, laidKinds := [.data], laidTests := true, laidLooks := .later }
def JournalLentUptoCardSaid : Prop := Claim7.holds Tryz.pinned (.plain (OpenSpec.upto journalLentSpec)) journalLentUptoCard

/-- THE SECOND FORM's CARD OF 'tilllaw5.JournalCrashed'. -/
def journalCrashedUptoCard : Claim7 := { stood := { row := journalCrashedUptoRow, standIns := [], harness := (true, "f5bdaedfd644014dfd46a0b94ce76770629a757a74949fafc5db5021044726fe"), looks := true }, kinds := [], alts := [], laidByText := true, laidKinds := [.data], laidTests := true, laidLooks := .later }
def JournalCrashedUptoCardSaid : Prop := Claim7.holds Tryz.pinned (.plain (OpenSpec.upto journalCrashedSpec)) journalCrashedUptoCard
end Rows
end Go.Proofs.YtlmfohcdaahojaaGreatDoor
