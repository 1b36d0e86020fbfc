/-
  DERIVED. GIVEN WITH THE SEED: THE CARDS: each row of YtmolcpojdojmlaaDoorRows.lean that lists a variable, with what it lists TIED to the program's text (the seventh form; the later family's looks); each row that meets fmt, with fmt's text TOLD by the authors' own Lean function (tested against real Go, not proved from fmt's source: count such statements apart). THE CARD IS WHAT COUNTS. Prove the row's statement (the work); the ties are given (YtmolcpojdojmlaaDoorTie.lean); close each card by the builder's one call (the guide's Derived/Test/ToyasCard.lean, 'card_holds'). Laid BY PROGRAM, IN A SANDBOX (cutbox-door.mjs). By AI agents, Wed Nov 11 2026. No macro, syntax, notation, axiom, sorry.
-/
import Derived.Test.YtmolcpojdojmlaaDoorRows
import GoSem.ClaimSeven
namespace Go.Proofs.YtmolcpojdojmlaaDoor
namespace Rows

/-- THE TIED CARD OF 'laws.FnExactReadEnv'. -/
def fnExactReadEnvCard : Claim7 := { stood := { row := fnExactReadEnvRow, standIns := [], harness := (true, "878ee8046a7dd331cbed220a01e4d7ac7fae348092f7ef0be16306edc553cd6b"), looks := false }, kinds := [], alts := [], laidByText := true, laidKinds := [.sentinel], laidTests := true, laidLooks := .later }
def FnExactReadEnvCardSaid : Prop := Claim7.holds Tryd.pinned (.plain (OpenSpec.ofChange fnExactReadEnvSpec)) fnExactReadEnvCard

/-- THE TIED CARD OF 'laws.FnMsgs'. -/
def fnMsgsCard : Claim7 := { stood := { row := fnMsgsRow, standIns := [], harness := (true, "878ee8046a7dd331cbed220a01e4d7ac7fae348092f7ef0be16306edc553cd6b"), looks := false }, kinds := [], alts := [], laidByText := true, laidKinds := [.sentinel], laidTests := true, laidLooks := .later }
def FnMsgsCardSaid : Prop := Claim7.holds Tryd.pinned (.plain (OpenSpec.ofChange fnMsgsSpec)) fnMsgsCard

/-- THE TIED CARD OF 'laws.FnEnvs'. -/
def fnEnvsCard : Claim7 := { stood := { row := fnEnvsRow, standIns := [], harness := (true, "878ee8046a7dd331cbed220a01e4d7ac7fae348092f7ef0be16306edc553cd6b"), looks := false }, kinds := [], alts := [], laidByText := true, laidKinds := [.sentinel], laidTests := true, laidLooks := .later }
def FnEnvsCardSaid : Prop := Claim7.holds Tryd.pinned (.plain (OpenSpec.ofChange fnEnvsSpec)) fnEnvsCard

/-- THE SECOND FORM's CARD OF 'laws.FnExactReadEnv'. -/
def fnExactReadEnvUptoCard : Claim7 := { stood := { row := fnExactReadEnvUptoRow, standIns := [], harness := (true, "878ee8046a7dd331cbed220a01e4d7ac7fae348092f7ef0be16306edc553cd6b"), looks := false }, kinds := [], alts := [], laidByText := true, laidKinds := [.sentinel], laidTests := true, laidLooks := .later }
def FnExactReadEnvUptoCardSaid : Prop := Claim7.holds Tryd.pinned (.plain (OpenSpec.upto fnExactReadEnvSpec)) fnExactReadEnvUptoCard

/-- THE SECOND FORM's CARD OF 'laws.FnMsgs'. -/
def fnMsgsUptoCard : Claim7 := { stood := { row := fnMsgsUptoRow, standIns := [], harness := (true, "878ee8046a7dd331cbed220a01e4d7ac7fae348092f7ef0be16306edc553cd6b"), looks := false }, kinds := [], alts := [], laidByText := true, laidKinds := [.sentinel], laidTests := true, laidLooks := .later }
def FnMsgsUptoCardSaid : Prop := Claim7.holds Tryd.pinned (.plain (OpenSpec.upto fnMsgsSpec)) fnMsgsUptoCard

/-- THE SECOND FORM's CARD OF 'laws.FnEnvs'. -/
def fnEnvsUptoCard : Claim7 := { stood := { row := fnEnvsUptoRow, standIns := [], harness := (true, "878ee8046a7dd331cbed220a01e4d7ac7fae348092f7ef0be16306edc553cd6b"), looks := false }, kinds := [], alts := [], laidByText := true, laidKinds := [.sentinel], laidTests := true, laidLooks := .later }
def FnEnvsUptoCardSaid : Prop := Claim7.holds Tryd.pinned (.plain (OpenSpec.upto fnEnvsSpec)) fnEnvsUptoCard
end Rows
end Go.Proofs.YtmolcpojdojmlaaDoor
