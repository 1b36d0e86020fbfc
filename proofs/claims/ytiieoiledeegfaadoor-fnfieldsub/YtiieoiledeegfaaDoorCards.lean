/-
  DERIVED. GIVEN WITH THE SEED: THE CARDS: each row of YtiieoiledeegfaaDoorRows.lean that lists a variable, with what it lists TIED to the program's text (the seventh form; the later family's looks); each row that meets fmt, with fmt's text TOLD by the authors' own Lean function (tested against real Go, not proved from fmt's source: count such statements apart). THE CARD IS WHAT COUNTS. Prove the row's statement (the work); the ties are given (YtiieoiledeegfaaDoorTie.lean); close each card by the builder's one call (the guide's Derived/Test/ToyasCard.lean, 'card_holds'). Laid BY PROGRAM, IN A SANDBOX (cutbox-door.mjs). By AI agents, Wed Nov 11 2026. No macro, syntax, notation, axiom, sorry.
-/
import Derived.Test.YtiieoiledeegfaaDoorRows
import GoSem.ClaimSeven
namespace Go.Proofs.YtiieoiledeegfaaDoor
namespace Rows

/-- THE TIED CARD OF 'laws.FnAdd'. -/
def fnAddCard : Claim7 := { stood := { row := fnAddRow, standIns := [], harness := (true, "fa931845b9a42a716a50b0e64a713f1b5d3f528e1affb38bf54dd5a9f4592c7b"), looks := false }, kinds := [], alts := [], laidByText := true, laidKinds := [.data], laidTests := true, laidLooks := .later }
def FnAddCardSaid : Prop := Claim7.holds Tryd.pinned (.plain (OpenSpec.ofChange fnAddSpec)) fnAddCard

/-- THE TIED CARD OF 'laws.FnMul'. -/
def fnMulCard : Claim7 := { stood := { row := fnMulRow, standIns := [], harness := (true, "fa931845b9a42a716a50b0e64a713f1b5d3f528e1affb38bf54dd5a9f4592c7b"), looks := false }, kinds := [], alts := [], laidByText := true, laidKinds := [.data], laidTests := true, laidLooks := .later }
def FnMulCardSaid : Prop := Claim7.holds Tryd.pinned (.plain (OpenSpec.ofChange fnMulSpec)) fnMulCard

/-- THE TIED CARD OF 'laws.FnInv'. -/
def fnInvCard : Claim7 := { stood := { row := fnInvRow, standIns := [], harness := (true, "fa931845b9a42a716a50b0e64a713f1b5d3f528e1affb38bf54dd5a9f4592c7b"), looks := false }, kinds := [], alts := [], laidByText := true, laidKinds := [.data], laidTests := true, laidLooks := .later }
def FnInvCardSaid : Prop := Claim7.holds Tryd.pinned (.plain (OpenSpec.ofChange fnInvSpec)) fnInvCard

/-- THE TIED CARD OF 'laws.FnFieldSub'. -/
def fnFieldSubCard : Claim7 := { stood := { row := fnFieldSubRow, standIns := [], harness := (true, "fa931845b9a42a716a50b0e64a713f1b5d3f528e1affb38bf54dd5a9f4592c7b"), looks := false }, kinds := [], alts := [], laidByText := true, laidKinds := [.data], laidTests := true, laidLooks := .later }
def FnFieldSubCardSaid : Prop := Claim7.holds Tryd.pinned (.plain (OpenSpec.ofChange fnFieldSubSpec)) fnFieldSubCard

/-- THE TIED CARD OF 'laws.FnExactFieldOk'. -/
def fnExactFieldOkCard : Claim7 := { stood := { row := fnExactFieldOkRow, standIns := [], harness := (true, "fa931845b9a42a716a50b0e64a713f1b5d3f528e1affb38bf54dd5a9f4592c7b"), looks := false }, kinds := [], alts := [], laidByText := true, laidKinds := [.data], laidTests := true, laidLooks := .later }
def FnExactFieldOkCardSaid : Prop := Claim7.holds Tryd.pinned (.plain (OpenSpec.ofChange fnExactFieldOkSpec)) fnExactFieldOkCard

/-- THE TIED CARD OF 'laws.FnExactFieldAdd'. -/
def fnExactFieldAddCard : Claim7 := { stood := { row := fnExactFieldAddRow, standIns := [], harness := (true, "fa931845b9a42a716a50b0e64a713f1b5d3f528e1affb38bf54dd5a9f4592c7b"), looks := false }, kinds := [], alts := [], laidByText := true, laidKinds := [.data], laidTests := true, laidLooks := .later }
def FnExactFieldAddCardSaid : Prop := Claim7.holds Tryd.pinned (.plain (OpenSpec.ofChange fnExactFieldAddSpec)) fnExactFieldAddCard

/-- THE TIED CARD OF 'laws.FnExactFieldSub'. -/
def fnExactFieldSubCard : Claim7 := { stood := { row := fnExactFieldSubRow, standIns := [], harness := (true, "fa931845b9a42a716a50b0e64a713f1b5d3f528e1affb38bf54dd5a9f4592c7b"), looks := false }, kinds := [], alts := [], laidByText := true, laidKinds := [.data], laidTests := true, laidLooks := .later }
def FnExactFieldSubCardSaid : Prop := Claim7.holds Tryd.pinned (.plain (OpenSpec.ofChange fnExactFieldSubSpec)) fnExactFieldSubCard

/-- THE TIED CARD OF 'laws.FnExactFieldMul'. -/
def fnExactFieldMulCard : Claim7 := { stood := { row := fnExactFieldMulRow, standIns := [], harness := (true, "fa931845b9a42a716a50b0e64a713f1b5d3f528e1affb38bf54dd5a9f4592c7b"), looks := false }, kinds := [], alts := [], laidByText := true, laidKinds := [.data], laidTests := true, laidLooks := .later }
def FnExactFieldMulCardSaid : Prop := Claim7.holds Tryd.pinned (.plain (OpenSpec.ofChange fnExactFieldMulSpec)) fnExactFieldMulCard

/-- THE TIED CARD OF 'laws.FnExactFieldInv'. -/
def fnExactFieldInvCard : Claim7 := { stood := { row := fnExactFieldInvRow, standIns := [], harness := (true, "fa931845b9a42a716a50b0e64a713f1b5d3f528e1affb38bf54dd5a9f4592c7b"), looks := false }, kinds := [], alts := [], laidByText := true, laidKinds := [.data], laidTests := true, laidLooks := .later }
def FnExactFieldInvCardSaid : Prop := Claim7.holds Tryd.pinned (.plain (OpenSpec.ofChange fnExactFieldInvSpec)) fnExactFieldInvCard

/-- THE SECOND FORM's CARD OF 'laws.FnAdd'. -/
def fnAddUptoCard : Claim7 := { stood := { row := fnAddUptoRow, standIns := [], harness := (true, "fa931845b9a42a716a50b0e64a713f1b5d3f528e1affb38bf54dd5a9f4592c7b"), looks := false }, kinds := [], alts := [], laidByText := true, laidKinds := [.data], laidTests := true, laidLooks := .later }
def FnAddUptoCardSaid : Prop := Claim7.holds Tryd.pinned (.plain (OpenSpec.upto fnAddSpec)) fnAddUptoCard

/-- THE SECOND FORM's CARD OF 'laws.FnMul'. -/
def fnMulUptoCard : Claim7 := { stood := { row := fnMulUptoRow, standIns := [], harness := (true, "fa931845b9a42a716a50b0e64a713f1b5d3f528e1affb38bf54dd5a9f4592c7b"), looks := false }, kinds := [], alts := [], laidByText := true, laidKinds := [.data], laidTests := true, laidLooks := .later }
def FnMulUptoCardSaid : Prop := Claim7.holds Tryd.pinned (.plain (OpenSpec.upto fnMulSpec)) fnMulUptoCard

/-- THE SECOND FORM's CARD OF 'laws.FnInv'. -/
def fnInvUptoCard : Claim7 := { stood := { row := fnInvUptoRow, standIns := [], harness := (true, "fa931845b9a42a716a50b0e64a713f1b5d3f528e1affb38bf54dd5a9f4592c7b"), looks := false }, kinds := [], alts := [], laidByText := true, laidKinds := [.data], laidTests := true, laidLooks := .later }
def FnInvUptoCardSaid : Prop := Claim7.holds Tryd.pinned (.plain (OpenSpec.upto fnInvSpec)) fnInvUptoCard

/-- THE SECOND FORM's CARD OF 'laws.FnFieldSub'. -/
def fnFieldSubUptoCard : Claim7 := { stood := { row := fnFieldSubUptoRow, standIns := [], harness := (true, "fa931845b9a42a716a50b0e64a713f1b5d3f528e1affb38bf54dd5a9f4592c7b"), looks := false }, kinds := [], alts := [], laidByText := true, laidKinds := [.data], laidTests := true, laidLooks := .later }
def FnFieldSubUptoCardSaid : Prop := Claim7.holds Tryd.pinned (.plain (OpenSpec.upto fnFieldSubSpec)) fnFieldSubUptoCard

/-- THE SECOND FORM's CARD OF 'laws.FnExactFieldOk'. -/
def fnExactFieldOkUptoCard : Claim7 := { stood := { row := fnExactFieldOkUptoRow, standIns := [], harness := (true, "fa931845b9a42a716a50b0e64a713f1b5d3f528e1affb38bf54dd5a9f4592c7b"), looks := false }, kinds := [], alts := [], laidByText := true, laidKinds := [.data], laidTests := true, laidLooks := .later }
def FnExactFieldOkUptoCardSaid : Prop := Claim7.holds Tryd.pinned (.plain (OpenSpec.upto fnExactFieldOkSpec)) fnExactFieldOkUptoCard

/-- THE SECOND FORM's CARD OF 'laws.FnExactFieldAdd'. -/
def fnExactFieldAddUptoCard : Claim7 := { stood := { row := fnExactFieldAddUptoRow, standIns := [], harness := (true, "fa931845b9a42a716a50b0e64a713f1b5d3f528e1affb38bf54dd5a9f4592c7b"), looks := false }, kinds := [], alts := [], laidByText := true, laidKinds := [.data], laidTests := true, laidLooks := .later }
def FnExactFieldAddUptoCardSaid : Prop := Claim7.holds Tryd.pinned (.plain (OpenSpec.upto fnExactFieldAddSpec)) fnExactFieldAddUptoCard

/-- THE SECOND FORM's CARD OF 'laws.FnExactFieldSub'. -/
def fnExactFieldSubUptoCard : Claim7 := { stood := { row := fnExactFieldSubUptoRow, standIns := [], harness := (true, "fa931845b9a42a716a50b0e64a713f1b5d3f528e1affb38bf54dd5a9f4592c7b"), looks := false }, kinds := [], alts := [], laidByText := true, laidKinds := [.data], laidTests := true, laidLooks := .later }
def FnExactFieldSubUptoCardSaid : Prop := Claim7.holds Tryd.pinned (.plain (OpenSpec.upto fnExactFieldSubSpec)) fnExactFieldSubUptoCard

/-- THE SECOND FORM's CARD OF 'laws.FnExactFieldMul'. -/
def fnExactFieldMulUptoCard : Claim7 := { stood := { row := fnExactFieldMulUptoRow, standIns := [], harness := (true, "fa931845b9a42a716a50b0e64a713f1b5d3f528e1affb38bf54dd5a9f4592c7b"), looks := false }, kinds := [], alts := [], laidByText := true, laidKinds := [.data], laidTests := true, laidLooks := .later }
def FnExactFieldMulUptoCardSaid : Prop := Claim7.holds Tryd.pinned (.plain (OpenSpec.upto fnExactFieldMulSpec)) fnExactFieldMulUptoCard

/-- THE SECOND FORM's CARD OF 'laws.FnExactFieldInv'. -/
def fnExactFieldInvUptoCard : Claim7 := { stood := { row := fnExactFieldInvUptoRow, standIns := [], harness := (true, "fa931845b9a42a716a50b0e64a713f1b5d3f528e1affb38bf54dd5a9f4592c7b"), looks := false }, kinds := [], alts := [], laidByText := true, laidKinds := [.data], laidTests := true, laidLooks := .later }
def FnExactFieldInvUptoCardSaid : Prop := Claim7.holds Tryd.pinned (.plain (OpenSpec.upto fnExactFieldInvSpec)) fnExactFieldInvUptoCard
end Rows
end Go.Proofs.YtiieoiledeegfaaDoor
