/-
  DERIVED. GIVEN WITH THE SEED: THE CARDS: each row of YtimkcbhebkdiiaaDoorRows.lean that lists a variable, with what it lists TIED to the program's text (the seventh form; the later family's looks); each row that meets fmt, with fmt's text TOLD by the authors' own Lean function (tested against real Go, not proved from fmt's source: count such statements apart). THE CARD IS WHAT COUNTS. Prove the row's statement (the work); the ties are given (YtimkcbhebkdiiaaDoorTie.lean); close each card by the builder's one call (the guide's Derived/Test/ToyasCard.lean, 'card_holds'). Laid BY PROGRAM, IN A SANDBOX (cutbox-door.mjs). By AI agents, Wed Nov 11 2026. No macro, syntax, notation, axiom, sorry.
-/
import Derived.Test.YtimkcbhebkdiiaaDoorRows
import GoSem.ClaimSeven
namespace Go.Proofs.YtimkcbhebkdiiaaDoor
namespace Rows

/-- THE TIED CARD OF 'laws.FnMsgs'. -/
def fnMsgsCard : Claim7 := { stood := { row := fnMsgsRow, standIns := [], harness := (true, "e8369d97578dfd6c73fbd9f559ba1b91b2b83f0ab7b39d16c021183902b771b9"), looks := false }, kinds := [], alts := [], laidByText := true, laidKinds := [.sentinel], laidTests := true, laidLooks := .later }
def FnMsgsCardSaid : Prop := Claim7.holds Tryd.pinned (.plain (OpenSpec.ofChange fnMsgsSpec)) fnMsgsCard

/-- THE TIED CARD OF 'laws.FnEnvs'. -/
def fnEnvsCard : Claim7 := { stood := { row := fnEnvsRow, standIns := [], harness := (true, "e8369d97578dfd6c73fbd9f559ba1b91b2b83f0ab7b39d16c021183902b771b9"), looks := false }, kinds := [], alts := [], laidByText := true, laidKinds := [.sentinel], laidTests := true, laidLooks := .later }
def FnEnvsCardSaid : Prop := Claim7.holds Tryd.pinned (.plain (OpenSpec.ofChange fnEnvsSpec)) fnEnvsCard

/-- THE TIED CARD OF 'laws.FnExactReadMsg'. -/
def fnExactReadMsgCard : Claim7 := { stood := { row := fnExactReadMsgRow, standIns := [], harness := (true, "e8369d97578dfd6c73fbd9f559ba1b91b2b83f0ab7b39d16c021183902b771b9"), looks := false }, kinds := [], alts := [], laidByText := true, laidKinds := [.sentinel], laidTests := true, laidLooks := .later }
def FnExactReadMsgCardSaid : Prop := Claim7.holds Tryd.pinned (.plain (OpenSpec.ofChange fnExactReadMsgSpec)) fnExactReadMsgCard

/-- THE TIED CARD OF 'laws.FnExactReadEnv'. -/
def fnExactReadEnvCard : Claim7 := { stood := { row := fnExactReadEnvRow, standIns := [], harness := (true, "e8369d97578dfd6c73fbd9f559ba1b91b2b83f0ab7b39d16c021183902b771b9"), looks := false }, kinds := [], alts := [], laidByText := true, laidKinds := [.sentinel], laidTests := true, laidLooks := .later }
def FnExactReadEnvCardSaid : Prop := Claim7.holds Tryd.pinned (.plain (OpenSpec.ofChange fnExactReadEnvSpec)) fnExactReadEnvCard

/-- THE SECOND FORM's CARD OF 'laws.FnMsgs'. -/
def fnMsgsUptoCard : Claim7 := { stood := { row := fnMsgsUptoRow, standIns := [], harness := (true, "e8369d97578dfd6c73fbd9f559ba1b91b2b83f0ab7b39d16c021183902b771b9"), looks := false }, kinds := [], alts := [], laidByText := true, laidKinds := [.sentinel], laidTests := true, laidLooks := .later }
def FnMsgsUptoCardSaid : Prop := Claim7.holds Tryd.pinned (.plain (OpenSpec.upto fnMsgsSpec)) fnMsgsUptoCard

/-- THE SECOND FORM's CARD OF 'laws.FnEnvs'. -/
def fnEnvsUptoCard : Claim7 := { stood := { row := fnEnvsUptoRow, standIns := [], harness := (true, "e8369d97578dfd6c73fbd9f559ba1b91b2b83f0ab7b39d16c021183902b771b9"), looks := false }, kinds := [], alts := [], laidByText := true, laidKinds := [.sentinel], laidTests := true, laidLooks := .later }
def FnEnvsUptoCardSaid : Prop := Claim7.holds Tryd.pinned (.plain (OpenSpec.upto fnEnvsSpec)) fnEnvsUptoCard

/-- THE SECOND FORM's CARD OF 'laws.FnExactReadMsg'. -/
def fnExactReadMsgUptoCard : Claim7 := { stood := { row := fnExactReadMsgUptoRow, standIns := [], harness := (true, "e8369d97578dfd6c73fbd9f559ba1b91b2b83f0ab7b39d16c021183902b771b9"), looks := false }, kinds := [], alts := [], laidByText := true, laidKinds := [.sentinel], laidTests := true, laidLooks := .later }
def FnExactReadMsgUptoCardSaid : Prop := Claim7.holds Tryd.pinned (.plain (OpenSpec.upto fnExactReadMsgSpec)) fnExactReadMsgUptoCard

/-- THE SECOND FORM's CARD OF 'laws.FnExactReadEnv'. -/
def fnExactReadEnvUptoCard : Claim7 := { stood := { row := fnExactReadEnvUptoRow, standIns := [], harness := (true, "e8369d97578dfd6c73fbd9f559ba1b91b2b83f0ab7b39d16c021183902b771b9"), looks := false }, kinds := [], alts := [], laidByText := true, laidKinds := [.sentinel], laidTests := true, laidLooks := .later }
def FnExactReadEnvUptoCardSaid : Prop := Claim7.holds Tryd.pinned (.plain (OpenSpec.upto fnExactReadEnvSpec)) fnExactReadEnvUptoCard
end Rows
end Go.Proofs.YtimkcbhebkdiiaaDoor
