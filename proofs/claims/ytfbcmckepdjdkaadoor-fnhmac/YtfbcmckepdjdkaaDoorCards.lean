/-
  DERIVED. GIVEN WITH THE SEED: THE CARDS: each row of YtfbcmckepdjdkaaDoorRows.lean that lists a variable, with what it lists TIED to the program's text (the seventh form; the later family's looks); each row that meets fmt, with fmt's text TOLD by the authors' own Lean function (tested against real Go, not proved from fmt's source: count such statements apart). THE CARD IS WHAT COUNTS. Prove the row's statement (the work); the ties are given (YtfbcmckepdjdkaaDoorTie.lean); close each card by the builder's one call (the guide's Derived/Test/ToyasCard.lean, 'card_holds'). Laid BY PROGRAM, IN A SANDBOX (cutbox-door.mjs). By AI agents, Wed Nov 11 2026. No macro, syntax, notation, axiom, sorry.
-/
import Derived.Test.YtfbcmckepdjdkaaDoorRows
import GoSem.ClaimSeven
namespace Go.Proofs.YtfbcmckepdjdkaaDoor
namespace Rows

/-- THE TIED CARD OF 'laws.FnExactStartA'. -/
def fnExactStartACard : Claim7 := { stood := { row := fnExactStartARow, standIns := [], harness := (true, "dbc18c4933945c87345823147cc65aff2a8a4bc805fa4b92683383599eeca095"), looks := false }, kinds := [], alts := [], laidByText := true, laidKinds := [.data, .data], laidTests := true, laidLooks := .later }
def FnExactStartACardSaid : Prop := Claim7.holds Tryd.pinned (.plain (OpenSpec.ofChange fnExactStartASpec)) fnExactStartACard

/-- THE TIED CARD OF 'laws.FnExactSharedA'. -/
def fnExactSharedACard : Claim7 := { stood := { row := fnExactSharedARow, standIns := [], harness := (true, "dbc18c4933945c87345823147cc65aff2a8a4bc805fa4b92683383599eeca095"), looks := false }, kinds := [], alts := [], laidByText := true, laidKinds := [.data, .data], laidTests := true, laidLooks := .later }
def FnExactSharedACardSaid : Prop := Claim7.holds Tryd.pinned (.plain (OpenSpec.ofChange fnExactSharedASpec)) fnExactSharedACard

/-- THE TIED CARD OF 'laws.FnExactSharedB'. -/
def fnExactSharedBCard : Claim7 := { stood := { row := fnExactSharedBRow, standIns := [], harness := (true, "dbc18c4933945c87345823147cc65aff2a8a4bc805fa4b92683383599eeca095"), looks := false }, kinds := [], alts := [], laidByText := true, laidKinds := [.data, .data], laidTests := true, laidLooks := .later }
def FnExactSharedBCardSaid : Prop := Claim7.holds Tryd.pinned (.plain (OpenSpec.ofChange fnExactSharedBSpec)) fnExactSharedBCard

/-- THE TIED CARD OF 'laws.FnShared'. -/
def fnSharedCard : Claim7 := { stood := { row := fnSharedRow, standIns := [], harness := (true, "dbc18c4933945c87345823147cc65aff2a8a4bc805fa4b92683383599eeca095"), looks := false }, kinds := [], alts := [], laidByText := true, laidKinds := [.data, .data], laidTests := true, laidLooks := .later }
def FnSharedCardSaid : Prop := Claim7.holds Tryd.pinned (.plain (OpenSpec.ofChange fnSharedSpec)) fnSharedCard

/-- THE TIED CARD OF 'laws.FnExactPairOf'. -/
def fnExactPairOfCard : Claim7 := { stood := { row := fnExactPairOfRow, standIns := [], harness := (true, "dbc18c4933945c87345823147cc65aff2a8a4bc805fa4b92683383599eeca095"), looks := false }, kinds := [], alts := [], laidByText := true, laidKinds := [.data], laidTests := true, laidLooks := .later }
def FnExactPairOfCardSaid : Prop := Claim7.holds Tryd.pinned (.plain (OpenSpec.ofChange fnExactPairOfSpec)) fnExactPairOfCard

/-- THE TIED CARD OF 'laws.FnHmac'. -/
def fnHmacCard : Claim7 := { stood := { row := fnHmacRow, standIns := [], harness := (true, "dbc18c4933945c87345823147cc65aff2a8a4bc805fa4b92683383599eeca095"), looks := false }, kinds := [], alts := [], laidByText := true, laidKinds := [.data], laidTests := true, laidLooks := .later }
def FnHmacCardSaid : Prop := Claim7.holds Tryd.pinned (.plain (OpenSpec.ofChange fnHmacSpec)) fnHmacCard

/-- THE TIED CARD OF 'laws.FnHkdf'. -/
def fnHkdfCard : Claim7 := { stood := { row := fnHkdfRow, standIns := [], harness := (true, "dbc18c4933945c87345823147cc65aff2a8a4bc805fa4b92683383599eeca095"), looks := false }, kinds := [], alts := [], laidByText := true, laidKinds := [.data], laidTests := true, laidLooks := .later }
def FnHkdfCardSaid : Prop := Claim7.holds Tryd.pinned (.plain (OpenSpec.ofChange fnHkdfSpec)) fnHkdfCard

/-- THE TIED CARD OF 'laws.FnExactReadEnv'. -/
def fnExactReadEnvCard : Claim7 := { stood := { row := fnExactReadEnvRow, standIns := [], harness := (true, "dbc18c4933945c87345823147cc65aff2a8a4bc805fa4b92683383599eeca095"), looks := false }, kinds := [], alts := [], laidByText := true, laidKinds := [.sentinel], laidTests := true, laidLooks := .later }
def FnExactReadEnvCardSaid : Prop := Claim7.holds Tryd.pinned (.plain (OpenSpec.ofChange fnExactReadEnvSpec)) fnExactReadEnvCard

/-- THE TIED CARD OF 'laws.FnMsgs'. -/
def fnMsgsCard : Claim7 := { stood := { row := fnMsgsRow, standIns := [], harness := (true, "dbc18c4933945c87345823147cc65aff2a8a4bc805fa4b92683383599eeca095"), looks := false }, kinds := [], alts := [], laidByText := true, laidKinds := [.sentinel], laidTests := true, laidLooks := .later }
def FnMsgsCardSaid : Prop := Claim7.holds Tryd.pinned (.plain (OpenSpec.ofChange fnMsgsSpec)) fnMsgsCard

/-- THE TIED CARD OF 'laws.FnEnvs'. -/
def fnEnvsCard : Claim7 := { stood := { row := fnEnvsRow, standIns := [], harness := (true, "dbc18c4933945c87345823147cc65aff2a8a4bc805fa4b92683383599eeca095"), looks := false }, kinds := [], alts := [], laidByText := true, laidKinds := [.sentinel], laidTests := true, laidLooks := .later }
def FnEnvsCardSaid : Prop := Claim7.holds Tryd.pinned (.plain (OpenSpec.ofChange fnEnvsSpec)) fnEnvsCard

/-- THE TIED CARD OF 'laws.FnExactNewDevice'. -/
def fnExactNewDeviceCard : Claim7 := { stood := { row := fnExactNewDeviceRow, standIns := [], harness := (true, "dbc18c4933945c87345823147cc65aff2a8a4bc805fa4b92683383599eeca095"), looks := false }, kinds := [], alts := [], laidByText := true, laidKinds := [.data], laidTests := true, laidLooks := .later }
def FnExactNewDeviceCardSaid : Prop := Claim7.holds Tryd.pinned (.plain (OpenSpec.ofChange fnExactNewDeviceSpec)) fnExactNewDeviceCard

/-- THE SECOND FORM's CARD OF 'laws.FnExactStartA'. -/
def fnExactStartAUptoCard : Claim7 := { stood := { row := fnExactStartAUptoRow, standIns := [], harness := (true, "dbc18c4933945c87345823147cc65aff2a8a4bc805fa4b92683383599eeca095"), looks := false }, kinds := [], alts := [], laidByText := true, laidKinds := [.data, .data], laidTests := true, laidLooks := .later }
def FnExactStartAUptoCardSaid : Prop := Claim7.holds Tryd.pinned (.plain (OpenSpec.upto fnExactStartASpec)) fnExactStartAUptoCard

/-- THE SECOND FORM's CARD OF 'laws.FnExactSharedA'. -/
def fnExactSharedAUptoCard : Claim7 := { stood := { row := fnExactSharedAUptoRow, standIns := [], harness := (true, "dbc18c4933945c87345823147cc65aff2a8a4bc805fa4b92683383599eeca095"), looks := false }, kinds := [], alts := [], laidByText := true, laidKinds := [.data, .data], laidTests := true, laidLooks := .later }
def FnExactSharedAUptoCardSaid : Prop := Claim7.holds Tryd.pinned (.plain (OpenSpec.upto fnExactSharedASpec)) fnExactSharedAUptoCard

/-- THE SECOND FORM's CARD OF 'laws.FnExactSharedB'. -/
def fnExactSharedBUptoCard : Claim7 := { stood := { row := fnExactSharedBUptoRow, standIns := [], harness := (true, "dbc18c4933945c87345823147cc65aff2a8a4bc805fa4b92683383599eeca095"), looks := false }, kinds := [], alts := [], laidByText := true, laidKinds := [.data, .data], laidTests := true, laidLooks := .later }
def FnExactSharedBUptoCardSaid : Prop := Claim7.holds Tryd.pinned (.plain (OpenSpec.upto fnExactSharedBSpec)) fnExactSharedBUptoCard

/-- THE SECOND FORM's CARD OF 'laws.FnShared'. -/
def fnSharedUptoCard : Claim7 := { stood := { row := fnSharedUptoRow, standIns := [], harness := (true, "dbc18c4933945c87345823147cc65aff2a8a4bc805fa4b92683383599eeca095"), looks := false }, kinds := [], alts := [], laidByText := true, laidKinds := [.data, .data], laidTests := true, laidLooks := .later }
def FnSharedUptoCardSaid : Prop := Claim7.holds Tryd.pinned (.plain (OpenSpec.upto fnSharedSpec)) fnSharedUptoCard

/-- THE SECOND FORM's CARD OF 'laws.FnExactPairOf'. -/
def fnExactPairOfUptoCard : Claim7 := { stood := { row := fnExactPairOfUptoRow, standIns := [], harness := (true, "dbc18c4933945c87345823147cc65aff2a8a4bc805fa4b92683383599eeca095"), looks := false }, kinds := [], alts := [], laidByText := true, laidKinds := [.data], laidTests := true, laidLooks := .later }
def FnExactPairOfUptoCardSaid : Prop := Claim7.holds Tryd.pinned (.plain (OpenSpec.upto fnExactPairOfSpec)) fnExactPairOfUptoCard

/-- THE SECOND FORM's CARD OF 'laws.FnHmac'. -/
def fnHmacUptoCard : Claim7 := { stood := { row := fnHmacUptoRow, standIns := [], harness := (true, "dbc18c4933945c87345823147cc65aff2a8a4bc805fa4b92683383599eeca095"), looks := false }, kinds := [], alts := [], laidByText := true, laidKinds := [.data], laidTests := true, laidLooks := .later }
def FnHmacUptoCardSaid : Prop := Claim7.holds Tryd.pinned (.plain (OpenSpec.upto fnHmacSpec)) fnHmacUptoCard

/-- THE SECOND FORM's CARD OF 'laws.FnHkdf'. -/
def fnHkdfUptoCard : Claim7 := { stood := { row := fnHkdfUptoRow, standIns := [], harness := (true, "dbc18c4933945c87345823147cc65aff2a8a4bc805fa4b92683383599eeca095"), looks := false }, kinds := [], alts := [], laidByText := true, laidKinds := [.data], laidTests := true, laidLooks := .later }
def FnHkdfUptoCardSaid : Prop := Claim7.holds Tryd.pinned (.plain (OpenSpec.upto fnHkdfSpec)) fnHkdfUptoCard

/-- THE SECOND FORM's CARD OF 'laws.FnExactReadEnv'. -/
def fnExactReadEnvUptoCard : Claim7 := { stood := { row := fnExactReadEnvUptoRow, standIns := [], harness := (true, "dbc18c4933945c87345823147cc65aff2a8a4bc805fa4b92683383599eeca095"), looks := false }, kinds := [], alts := [], laidByText := true, laidKinds := [.sentinel], laidTests := true, laidLooks := .later }
def FnExactReadEnvUptoCardSaid : Prop := Claim7.holds Tryd.pinned (.plain (OpenSpec.upto fnExactReadEnvSpec)) fnExactReadEnvUptoCard

/-- THE SECOND FORM's CARD OF 'laws.FnMsgs'. -/
def fnMsgsUptoCard : Claim7 := { stood := { row := fnMsgsUptoRow, standIns := [], harness := (true, "dbc18c4933945c87345823147cc65aff2a8a4bc805fa4b92683383599eeca095"), looks := false }, kinds := [], alts := [], laidByText := true, laidKinds := [.sentinel], laidTests := true, laidLooks := .later }
def FnMsgsUptoCardSaid : Prop := Claim7.holds Tryd.pinned (.plain (OpenSpec.upto fnMsgsSpec)) fnMsgsUptoCard

/-- THE SECOND FORM's CARD OF 'laws.FnEnvs'. -/
def fnEnvsUptoCard : Claim7 := { stood := { row := fnEnvsUptoRow, standIns := [], harness := (true, "dbc18c4933945c87345823147cc65aff2a8a4bc805fa4b92683383599eeca095"), looks := false }, kinds := [], alts := [], laidByText := true, laidKinds := [.sentinel], laidTests := true, laidLooks := .later }
def FnEnvsUptoCardSaid : Prop := Claim7.holds Tryd.pinned (.plain (OpenSpec.upto fnEnvsSpec)) fnEnvsUptoCard

/-- THE SECOND FORM's CARD OF 'laws.FnExactNewDevice'. -/
def fnExactNewDeviceUptoCard : Claim7 := { stood := { row := fnExactNewDeviceUptoRow, standIns := [], harness := (true, "dbc18c4933945c87345823147cc65aff2a8a4bc805fa4b92683383599eeca095"), looks := false }, kinds := [], alts := [], laidByText := true, laidKinds := [.data], laidTests := true, laidLooks := .later }
def FnExactNewDeviceUptoCardSaid : Prop := Claim7.holds Tryd.pinned (.plain (OpenSpec.upto fnExactNewDeviceSpec)) fnExactNewDeviceUptoCard
end Rows
end Go.Proofs.YtfbcmckepdjdkaaDoor
