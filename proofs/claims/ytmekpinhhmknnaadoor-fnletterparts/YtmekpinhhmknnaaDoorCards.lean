/-
  DERIVED. GIVEN WITH THE SEED: THE CARDS: each row of YtmekpinhhmknnaaDoorRows.lean that lists a variable, with what it lists TIED to the program's text (the seventh form; the later family's looks); each row that meets fmt, with fmt's text TOLD by the authors' own Lean function (tested against real Go, not proved from fmt's source: count such statements apart). THE CARD IS WHAT COUNTS. Prove the row's statement (the work); the ties are given (YtmekpinhhmknnaaDoorTie.lean); close each card by the builder's one call (the guide's Derived/Test/ToyasCard.lean, 'card_holds'). Laid BY PROGRAM, IN A SANDBOX (cutbox-door.mjs). By AI agents, Wed Nov 11 2026. No macro, syntax, notation, axiom, sorry.
-/
import Derived.Test.YtmekpinhhmknnaaDoorRows
import GoSem.ClaimSeven
namespace Go.Proofs.YtmekpinhhmknnaaDoor
namespace Rows

/-- THE TIED CARD OF 'laws.FnExactLetterText'. -/
def fnExactLetterTextCard : Claim7 := { stood := { row := fnExactLetterTextRow, standIns := [], harness := (true, "56e337faeab62345409a2a606bd40658b11c9cab83597786d62ed62a681648c2"), looks := true }, kinds := [], alts := [], laidByText := true, laidKinds := [.data, .data, .data], laidTests := true, laidLooks := .later }
def FnExactLetterTextCardSaid : Prop := Claim7.holds Tryd.pinned (.plain (OpenSpec.ofChange fnExactLetterTextSpec)) fnExactLetterTextCard

/-- THE TIED CARD OF 'laws.FnExactLetterPart'. -/
def fnExactLetterPartCard : Claim7 := { stood := { row := fnExactLetterPartRow, standIns := [], harness := (true, "56e337faeab62345409a2a606bd40658b11c9cab83597786d62ed62a681648c2"), looks := true }, kinds := [], alts := [], laidByText := true, laidKinds := [.data, .data, .data], laidTests := true, laidLooks := .later }
def FnExactLetterPartCardSaid : Prop := Claim7.holds Tryd.pinned (.plain (OpenSpec.ofChange fnExactLetterPartSpec)) fnExactLetterPartCard

/-- THE TIED CARD OF 'laws.FnExactReadLetter'. -/
def fnExactReadLetterCard : Claim7 := { stood := { row := fnExactReadLetterRow, standIns := [], harness := (true, "56e337faeab62345409a2a606bd40658b11c9cab83597786d62ed62a681648c2"), looks := true }, kinds := [], alts := [], laidByText := true, laidKinds := [.data, .data, .data, .data, .sentinel, .sentinel, .pinned], laidTests := true, laidLooks := .later }
def FnExactReadLetterCardSaid : Prop := Claim7.holds Tryd.pinned (.plain (OpenSpec.ofChange fnExactReadLetterSpec)) fnExactReadLetterCard

/-- THE TIED CARD OF 'laws.FnLetters'. -/
def fnLettersCard : Claim7 := { stood := { row := fnLettersRow, standIns := [], harness := (true, "56e337faeab62345409a2a606bd40658b11c9cab83597786d62ed62a681648c2"), looks := true }, kinds := [], alts := [], laidByText := true, laidKinds := [.data, .data, .data, .data, .sentinel, .sentinel, .pinned], laidTests := true, laidLooks := .later }
def FnLettersCardSaid : Prop := Claim7.holds Tryd.pinned (.plain (OpenSpec.ofChange fnLettersSpec)) fnLettersCard

/-- THE TIED CARD OF 'laws.FnLetterParts'. -/
def fnLetterPartsCard : Claim7 := { stood := { row := fnLetterPartsRow, standIns := [], harness := (true, "56e337faeab62345409a2a606bd40658b11c9cab83597786d62ed62a681648c2"), looks := true }, kinds := [], alts := [], laidByText := true, laidKinds := [.data, .data, .data], laidTests := true, laidLooks := .later }
def FnLetterPartsCardSaid : Prop := Claim7.holds Tryd.pinned (.plain (OpenSpec.ofChange fnLetterPartsSpec)) fnLetterPartsCard

/-- THE SECOND FORM's CARD OF 'laws.FnExactLetterText'. -/
def fnExactLetterTextUptoCard : Claim7 := { stood := { row := fnExactLetterTextUptoRow, standIns := [], harness := (true, "56e337faeab62345409a2a606bd40658b11c9cab83597786d62ed62a681648c2"), looks := true }, kinds := [], alts := [], laidByText := true, laidKinds := [.data, .data, .data], laidTests := true, laidLooks := .later }
def FnExactLetterTextUptoCardSaid : Prop := Claim7.holds Tryd.pinned (.plain (OpenSpec.upto fnExactLetterTextSpec)) fnExactLetterTextUptoCard

/-- THE SECOND FORM's CARD OF 'laws.FnExactLetterPart'. -/
def fnExactLetterPartUptoCard : Claim7 := { stood := { row := fnExactLetterPartUptoRow, standIns := [], harness := (true, "56e337faeab62345409a2a606bd40658b11c9cab83597786d62ed62a681648c2"), looks := true }, kinds := [], alts := [], laidByText := true, laidKinds := [.data, .data, .data], laidTests := true, laidLooks := .later }
def FnExactLetterPartUptoCardSaid : Prop := Claim7.holds Tryd.pinned (.plain (OpenSpec.upto fnExactLetterPartSpec)) fnExactLetterPartUptoCard

/-- THE SECOND FORM's CARD OF 'laws.FnExactReadLetter'. -/
def fnExactReadLetterUptoCard : Claim7 := { stood := { row := fnExactReadLetterUptoRow, standIns := [], harness := (true, "56e337faeab62345409a2a606bd40658b11c9cab83597786d62ed62a681648c2"), looks := true }, kinds := [], alts := [], laidByText := true, laidKinds := [.data, .data, .data, .data, .sentinel, .sentinel, .pinned], laidTests := true, laidLooks := .later }
def FnExactReadLetterUptoCardSaid : Prop := Claim7.holds Tryd.pinned (.plain (OpenSpec.upto fnExactReadLetterSpec)) fnExactReadLetterUptoCard

/-- THE SECOND FORM's CARD OF 'laws.FnLetters'. -/
def fnLettersUptoCard : Claim7 := { stood := { row := fnLettersUptoRow, standIns := [], harness := (true, "56e337faeab62345409a2a606bd40658b11c9cab83597786d62ed62a681648c2"), looks := true }, kinds := [], alts := [], laidByText := true, laidKinds := [.data, .data, .data, .data, .sentinel, .sentinel, .pinned], laidTests := true, laidLooks := .later }
def FnLettersUptoCardSaid : Prop := Claim7.holds Tryd.pinned (.plain (OpenSpec.upto fnLettersSpec)) fnLettersUptoCard

/-- THE SECOND FORM's CARD OF 'laws.FnLetterParts'. -/
def fnLetterPartsUptoCard : Claim7 := { stood := { row := fnLetterPartsUptoRow, standIns := [], harness := (true, "56e337faeab62345409a2a606bd40658b11c9cab83597786d62ed62a681648c2"), looks := true }, kinds := [], alts := [], laidByText := true, laidKinds := [.data, .data, .data], laidTests := true, laidLooks := .later }
def FnLetterPartsUptoCardSaid : Prop := Claim7.holds Tryd.pinned (.plain (OpenSpec.upto fnLetterPartsSpec)) fnLetterPartsUptoCard
end Rows
end Go.Proofs.YtmekpinhhmknnaaDoor
