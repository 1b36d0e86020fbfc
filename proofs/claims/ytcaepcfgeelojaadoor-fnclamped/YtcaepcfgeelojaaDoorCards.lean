/-
  DERIVED. GIVEN WITH THE SEED: THE CARDS: each row of YtcaepcfgeelojaaDoorRows.lean that lists a variable, with what it lists TIED to the program's text (the seventh form; the later family's looks); each row that meets fmt, with fmt's text TOLD by the authors' own Lean function (tested against real Go, not proved from fmt's source: count such statements apart). THE CARD IS WHAT COUNTS. Prove the row's statement (the work); the ties are given (YtcaepcfgeelojaaDoorTie.lean); close each card by the builder's one call (the guide's Derived/Test/ToyasCard.lean, 'card_holds'). Laid BY PROGRAM, IN A SANDBOX (cutbox-door.mjs). By AI agents, Wed Nov 11 2026. No macro, syntax, notation, axiom, sorry.
-/
import Derived.Test.YtcaepcfgeelojaaDoorRows
import GoSem.ClaimSeven
namespace Go.Proofs.YtcaepcfgeelojaaDoor
namespace Rows

/-- THE TIED CARD OF 'laws.FnInv'. -/
def fnInvCard : Claim7 := { stood := { row := fnInvRow, standIns := [], harness := (true, "0fa4d73b6cce34eb942251f4427d818e5e69814c78c7131ce3644e019242b9b3"), looks := false }, kinds := [], alts := [], laidByText := true, laidKinds := [.data], laidTests := true, laidLooks := .later }
def FnInvCardSaid : Prop := Claim7.holds Tryd.pinned (.plain (OpenSpec.ofChange fnInvSpec)) fnInvCard

/-- THE TIED CARD OF 'laws.FnClamped'. -/
def fnClampedCard : Claim7 := { stood := { row := fnClampedRow, standIns := [], harness := (true, "0fa4d73b6cce34eb942251f4427d818e5e69814c78c7131ce3644e019242b9b3"), looks := false }, kinds := [], alts := [], laidByText := true, laidKinds := [.data], laidTests := true, laidLooks := .later }
def FnClampedCardSaid : Prop := Claim7.holds Tryd.pinned (.plain (OpenSpec.ofChange fnClampedSpec)) fnClampedCard

/-- THE TIED CARD OF 'laws.FnExactDh'. -/
def fnExactDhCard : Claim7 := { stood := { row := fnExactDhRow, standIns := [], harness := (true, "0fa4d73b6cce34eb942251f4427d818e5e69814c78c7131ce3644e019242b9b3"), looks := false }, kinds := [], alts := [], laidByText := true, laidKinds := [.data], laidTests := true, laidLooks := .later }
def FnExactDhCardSaid : Prop := Claim7.holds Tryd.pinned (.plain (OpenSpec.ofChange fnExactDhSpec)) fnExactDhCard

/-- THE TIED CARD OF 'laws.FnExactPublicOf'. -/
def fnExactPublicOfCard : Claim7 := { stood := { row := fnExactPublicOfRow, standIns := [], harness := (true, "0fa4d73b6cce34eb942251f4427d818e5e69814c78c7131ce3644e019242b9b3"), looks := false }, kinds := [], alts := [], laidByText := true, laidKinds := [.data], laidTests := true, laidLooks := .later }
def FnExactPublicOfCardSaid : Prop := Claim7.holds Tryd.pinned (.plain (OpenSpec.ofChange fnExactPublicOfSpec)) fnExactPublicOfCard

/-- THE TIED CARD OF 'laws.FnDhHigh'. -/
def fnDhHighCard : Claim7 := { stood := { row := fnDhHighRow, standIns := [], harness := (true, "0fa4d73b6cce34eb942251f4427d818e5e69814c78c7131ce3644e019242b9b3"), looks := false }, kinds := [], alts := [], laidByText := true, laidKinds := [.data], laidTests := true, laidLooks := .later }
def FnDhHighCardSaid : Prop := Claim7.holds Tryd.pinned (.plain (OpenSpec.ofChange fnDhHighSpec)) fnDhHighCard

/-- THE TIED CARD OF 'laws.FnDhBase'. -/
def fnDhBaseCard : Claim7 := { stood := { row := fnDhBaseRow, standIns := [], harness := (true, "0fa4d73b6cce34eb942251f4427d818e5e69814c78c7131ce3644e019242b9b3"), looks := false }, kinds := [], alts := [], laidByText := true, laidKinds := [.data], laidTests := true, laidLooks := .later }
def FnDhBaseCardSaid : Prop := Claim7.holds Tryd.pinned (.plain (OpenSpec.ofChange fnDhBaseSpec)) fnDhBaseCard

/-- THE TIED CARD OF 'laws.FnDhLow'. -/
def fnDhLowCard : Claim7 := { stood := { row := fnDhLowRow, standIns := [], harness := (true, "0fa4d73b6cce34eb942251f4427d818e5e69814c78c7131ce3644e019242b9b3"), looks := false }, kinds := [], alts := [], laidByText := true, laidKinds := [.data], laidTests := true, laidLooks := .later }
def FnDhLowCardSaid : Prop := Claim7.holds Tryd.pinned (.plain (OpenSpec.ofChange fnDhLowSpec)) fnDhLowCard

/-- THE SECOND FORM's CARD OF 'laws.FnInv'. -/
def fnInvUptoCard : Claim7 := { stood := { row := fnInvUptoRow, standIns := [], harness := (true, "0fa4d73b6cce34eb942251f4427d818e5e69814c78c7131ce3644e019242b9b3"), looks := false }, kinds := [], alts := [], laidByText := true, laidKinds := [.data], laidTests := true, laidLooks := .later }
def FnInvUptoCardSaid : Prop := Claim7.holds Tryd.pinned (.plain (OpenSpec.upto fnInvSpec)) fnInvUptoCard

/-- THE SECOND FORM's CARD OF 'laws.FnClamped'. -/
def fnClampedUptoCard : Claim7 := { stood := { row := fnClampedUptoRow, standIns := [], harness := (true, "0fa4d73b6cce34eb942251f4427d818e5e69814c78c7131ce3644e019242b9b3"), looks := false }, kinds := [], alts := [], laidByText := true, laidKinds := [.data], laidTests := true, laidLooks := .later }
def FnClampedUptoCardSaid : Prop := Claim7.holds Tryd.pinned (.plain (OpenSpec.upto fnClampedSpec)) fnClampedUptoCard

/-- THE SECOND FORM's CARD OF 'laws.FnExactDh'. -/
def fnExactDhUptoCard : Claim7 := { stood := { row := fnExactDhUptoRow, standIns := [], harness := (true, "0fa4d73b6cce34eb942251f4427d818e5e69814c78c7131ce3644e019242b9b3"), looks := false }, kinds := [], alts := [], laidByText := true, laidKinds := [.data], laidTests := true, laidLooks := .later }
def FnExactDhUptoCardSaid : Prop := Claim7.holds Tryd.pinned (.plain (OpenSpec.upto fnExactDhSpec)) fnExactDhUptoCard

/-- THE SECOND FORM's CARD OF 'laws.FnExactPublicOf'. -/
def fnExactPublicOfUptoCard : Claim7 := { stood := { row := fnExactPublicOfUptoRow, standIns := [], harness := (true, "0fa4d73b6cce34eb942251f4427d818e5e69814c78c7131ce3644e019242b9b3"), looks := false }, kinds := [], alts := [], laidByText := true, laidKinds := [.data], laidTests := true, laidLooks := .later }
def FnExactPublicOfUptoCardSaid : Prop := Claim7.holds Tryd.pinned (.plain (OpenSpec.upto fnExactPublicOfSpec)) fnExactPublicOfUptoCard

/-- THE SECOND FORM's CARD OF 'laws.FnDhHigh'. -/
def fnDhHighUptoCard : Claim7 := { stood := { row := fnDhHighUptoRow, standIns := [], harness := (true, "0fa4d73b6cce34eb942251f4427d818e5e69814c78c7131ce3644e019242b9b3"), looks := false }, kinds := [], alts := [], laidByText := true, laidKinds := [.data], laidTests := true, laidLooks := .later }
def FnDhHighUptoCardSaid : Prop := Claim7.holds Tryd.pinned (.plain (OpenSpec.upto fnDhHighSpec)) fnDhHighUptoCard

/-- THE SECOND FORM's CARD OF 'laws.FnDhBase'. -/
def fnDhBaseUptoCard : Claim7 := { stood := { row := fnDhBaseUptoRow, standIns := [], harness := (true, "0fa4d73b6cce34eb942251f4427d818e5e69814c78c7131ce3644e019242b9b3"), looks := false }, kinds := [], alts := [], laidByText := true, laidKinds := [.data], laidTests := true, laidLooks := .later }
def FnDhBaseUptoCardSaid : Prop := Claim7.holds Tryd.pinned (.plain (OpenSpec.upto fnDhBaseSpec)) fnDhBaseUptoCard

/-- THE SECOND FORM's CARD OF 'laws.FnDhLow'. -/
def fnDhLowUptoCard : Claim7 := { stood := { row := fnDhLowUptoRow, standIns := [], harness := (true, "0fa4d73b6cce34eb942251f4427d818e5e69814c78c7131ce3644e019242b9b3"), looks := false }, kinds := [], alts := [], laidByText := true, laidKinds := [.data], laidTests := true, laidLooks := .later }
def FnDhLowUptoCardSaid : Prop := Claim7.holds Tryd.pinned (.plain (OpenSpec.upto fnDhLowSpec)) fnDhLowUptoCard
end Rows
end Go.Proofs.YtcaepcfgeelojaaDoor
