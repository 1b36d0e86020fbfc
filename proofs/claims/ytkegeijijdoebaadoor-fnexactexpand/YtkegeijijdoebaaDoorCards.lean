/-
  DERIVED. GIVEN WITH THE SEED: THE CARDS: each row of YtkegeijijdoebaaDoorRows.lean that lists a variable, with what it lists TIED to the program's text (the seventh form; the later family's looks); each row that meets fmt, with fmt's text TOLD by the authors' own Lean function (tested against real Go, not proved from fmt's source: count such statements apart). THE CARD IS WHAT COUNTS. Prove the row's statement (the work); the ties are given (YtkegeijijdoebaaDoorTie.lean); close each card by the builder's one call (the guide's Derived/Test/ToyasCard.lean, 'card_holds'). Laid BY PROGRAM, IN A SANDBOX (cutbox-door.mjs). By AI agents, Wed Nov 11 2026. No macro, syntax, notation, axiom, sorry.
-/
import Derived.Test.YtkegeijijdoebaaDoorRows
import GoSem.ClaimSeven
namespace Go.Proofs.YtkegeijijdoebaaDoor
namespace Rows

/-- THE TIED CARD OF 'laws.FnHmac'. -/
def fnHmacCard : Claim7 := { stood := { row := fnHmacRow, standIns := [], harness := (true, "56ab821d8bc742f58641dccba0f766bdcaab30ef9e064dbc2b46a807d29a6760"), looks := false }, kinds := [], alts := [], laidByText := true, laidKinds := [.data], laidTests := true, laidLooks := .later }
def FnHmacCardSaid : Prop := Claim7.holds Tryd.pinned (.plain (OpenSpec.ofChange fnHmacSpec)) fnHmacCard

/-- THE TIED CARD OF 'laws.FnHkdf'. -/
def fnHkdfCard : Claim7 := { stood := { row := fnHkdfRow, standIns := [], harness := (true, "56ab821d8bc742f58641dccba0f766bdcaab30ef9e064dbc2b46a807d29a6760"), looks := false }, kinds := [], alts := [], laidByText := true, laidKinds := [.data], laidTests := true, laidLooks := .later }
def FnHkdfCardSaid : Prop := Claim7.holds Tryd.pinned (.plain (OpenSpec.ofChange fnHkdfSpec)) fnHkdfCard

/-- THE TIED CARD OF 'laws.FnExactHmac'. -/
def fnExactHmacCard : Claim7 := { stood := { row := fnExactHmacRow, standIns := [], harness := (true, "56ab821d8bc742f58641dccba0f766bdcaab30ef9e064dbc2b46a807d29a6760"), looks := false }, kinds := [], alts := [], laidByText := true, laidKinds := [.data], laidTests := true, laidLooks := .later }
def FnExactHmacCardSaid : Prop := Claim7.holds Tryd.pinned (.plain (OpenSpec.ofChange fnExactHmacSpec)) fnExactHmacCard

/-- THE TIED CARD OF 'laws.FnExactExtract'. -/
def fnExactExtractCard : Claim7 := { stood := { row := fnExactExtractRow, standIns := [], harness := (true, "56ab821d8bc742f58641dccba0f766bdcaab30ef9e064dbc2b46a807d29a6760"), looks := false }, kinds := [], alts := [], laidByText := true, laidKinds := [.data], laidTests := true, laidLooks := .later }
def FnExactExtractCardSaid : Prop := Claim7.holds Tryd.pinned (.plain (OpenSpec.ofChange fnExactExtractSpec)) fnExactExtractCard

/-- THE TIED CARD OF 'laws.FnExactExpand'. -/
def fnExactExpandCard : Claim7 := { stood := { row := fnExactExpandRow, standIns := [], harness := (true, "56ab821d8bc742f58641dccba0f766bdcaab30ef9e064dbc2b46a807d29a6760"), looks := false }, kinds := [], alts := [], laidByText := true, laidKinds := [.data], laidTests := true, laidLooks := .later }
def FnExactExpandCardSaid : Prop := Claim7.holds Tryd.pinned (.plain (OpenSpec.ofChange fnExactExpandSpec)) fnExactExpandCard

/-- THE TIED CARD OF 'laws.FnExactHkdf'. -/
def fnExactHkdfCard : Claim7 := { stood := { row := fnExactHkdfRow, standIns := [], harness := (true, "56ab821d8bc742f58641dccba0f766bdcaab30ef9e064dbc2b46a807d29a6760"), looks := false }, kinds := [], alts := [], laidByText := true, laidKinds := [.data], laidTests := true, laidLooks := .later }
def FnExactHkdfCardSaid : Prop := Claim7.holds Tryd.pinned (.plain (OpenSpec.ofChange fnExactHkdfSpec)) fnExactHkdfCard

/-- THE SECOND FORM's CARD OF 'laws.FnHmac'. -/
def fnHmacUptoCard : Claim7 := { stood := { row := fnHmacUptoRow, standIns := [], harness := (true, "56ab821d8bc742f58641dccba0f766bdcaab30ef9e064dbc2b46a807d29a6760"), looks := false }, kinds := [], alts := [], laidByText := true, laidKinds := [.data], laidTests := true, laidLooks := .later }
def FnHmacUptoCardSaid : Prop := Claim7.holds Tryd.pinned (.plain (OpenSpec.upto fnHmacSpec)) fnHmacUptoCard

/-- THE SECOND FORM's CARD OF 'laws.FnHkdf'. -/
def fnHkdfUptoCard : Claim7 := { stood := { row := fnHkdfUptoRow, standIns := [], harness := (true, "56ab821d8bc742f58641dccba0f766bdcaab30ef9e064dbc2b46a807d29a6760"), looks := false }, kinds := [], alts := [], laidByText := true, laidKinds := [.data], laidTests := true, laidLooks := .later }
def FnHkdfUptoCardSaid : Prop := Claim7.holds Tryd.pinned (.plain (OpenSpec.upto fnHkdfSpec)) fnHkdfUptoCard

/-- THE SECOND FORM's CARD OF 'laws.FnExactHmac'. -/
def fnExactHmacUptoCard : Claim7 := { stood := { row := fnExactHmacUptoRow, standIns := [], harness := (true, "56ab821d8bc742f58641dccba0f766bdcaab30ef9e064dbc2b46a807d29a6760"), looks := false }, kinds := [], alts := [], laidByText := true, laidKinds := [.data], laidTests := true, laidLooks := .later }
def FnExactHmacUptoCardSaid : Prop := Claim7.holds Tryd.pinned (.plain (OpenSpec.upto fnExactHmacSpec)) fnExactHmacUptoCard

/-- THE SECOND FORM's CARD OF 'laws.FnExactExtract'. -/
def fnExactExtractUptoCard : Claim7 := { stood := { row := fnExactExtractUptoRow, standIns := [], harness := (true, "56ab821d8bc742f58641dccba0f766bdcaab30ef9e064dbc2b46a807d29a6760"), looks := false }, kinds := [], alts := [], laidByText := true, laidKinds := [.data], laidTests := true, laidLooks := .later }
def FnExactExtractUptoCardSaid : Prop := Claim7.holds Tryd.pinned (.plain (OpenSpec.upto fnExactExtractSpec)) fnExactExtractUptoCard

/-- THE SECOND FORM's CARD OF 'laws.FnExactExpand'. -/
def fnExactExpandUptoCard : Claim7 := { stood := { row := fnExactExpandUptoRow, standIns := [], harness := (true, "56ab821d8bc742f58641dccba0f766bdcaab30ef9e064dbc2b46a807d29a6760"), looks := false }, kinds := [], alts := [], laidByText := true, laidKinds := [.data], laidTests := true, laidLooks := .later }
def FnExactExpandUptoCardSaid : Prop := Claim7.holds Tryd.pinned (.plain (OpenSpec.upto fnExactExpandSpec)) fnExactExpandUptoCard

/-- THE SECOND FORM's CARD OF 'laws.FnExactHkdf'. -/
def fnExactHkdfUptoCard : Claim7 := { stood := { row := fnExactHkdfUptoRow, standIns := [], harness := (true, "56ab821d8bc742f58641dccba0f766bdcaab30ef9e064dbc2b46a807d29a6760"), looks := false }, kinds := [], alts := [], laidByText := true, laidKinds := [.data], laidTests := true, laidLooks := .later }
def FnExactHkdfUptoCardSaid : Prop := Claim7.holds Tryd.pinned (.plain (OpenSpec.upto fnExactHkdfSpec)) fnExactHkdfUptoCard
end Rows
end Go.Proofs.YtkegeijijdoebaaDoor
