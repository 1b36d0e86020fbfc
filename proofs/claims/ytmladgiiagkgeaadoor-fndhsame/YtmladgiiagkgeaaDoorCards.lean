/-
  DERIVED. GIVEN WITH THE SEED: THE CARDS: each row of YtmladgiiagkgeaaDoorRows.lean that lists a variable, with what it lists TIED to the program's text (the seventh form; the later family's looks); each row that meets fmt, with fmt's text TOLD by the authors' own Lean function (tested against real Go, not proved from fmt's source: count such statements apart). THE CARD IS WHAT COUNTS. Prove the row's statement (the work); the ties are given (YtmladgiiagkgeaaDoorTie.lean); close each card by the builder's one call (the guide's Derived/Test/ToyasCard.lean, 'card_holds'). Laid BY PROGRAM, IN A SANDBOX (cutbox-door.mjs). By AI agents, Wed Nov 11 2026. No macro, syntax, notation, axiom, sorry.
-/
import Derived.Test.YtmladgiiagkgeaaDoorRows
import GoSem.ClaimSeven
namespace Go.Proofs.YtmladgiiagkgeaaDoor
namespace Rows

/-- THE TIED CARD OF 'laws.FnDhSame'. -/
def fnDhSameCard : Claim7 := { stood := { row := fnDhSameRow, standIns := [], harness := (true, "8e5b556704087aa3bc7dab8b871d2c8fe7e780233e77f705e5fb8eff7ea4ef64"), looks := false }, kinds := [], alts := [], laidByText := true, laidKinds := [.data], laidTests := true, laidLooks := .later }
def FnDhSameCardSaid : Prop := Claim7.holds Tryd.pinned (.plain (OpenSpec.ofChange fnDhSameSpec)) fnDhSameCard

/-- THE TIED CARD OF 'laws.FnDhThree'. -/
def fnDhThreeCard : Claim7 := { stood := { row := fnDhThreeRow, standIns := [], harness := (true, "8e5b556704087aa3bc7dab8b871d2c8fe7e780233e77f705e5fb8eff7ea4ef64"), looks := false }, kinds := [], alts := [], laidByText := true, laidKinds := [.data], laidTests := true, laidLooks := .later }
def FnDhThreeCardSaid : Prop := Claim7.holds Tryd.pinned (.plain (OpenSpec.ofChange fnDhThreeSpec)) fnDhThreeCard

/-- THE SECOND FORM's CARD OF 'laws.FnDhSame'. -/
def fnDhSameUptoCard : Claim7 := { stood := { row := fnDhSameUptoRow, standIns := [], harness := (true, "8e5b556704087aa3bc7dab8b871d2c8fe7e780233e77f705e5fb8eff7ea4ef64"), looks := false }, kinds := [], alts := [], laidByText := true, laidKinds := [.data], laidTests := true, laidLooks := .later }
def FnDhSameUptoCardSaid : Prop := Claim7.holds Tryd.pinned (.plain (OpenSpec.upto fnDhSameSpec)) fnDhSameUptoCard

/-- THE SECOND FORM's CARD OF 'laws.FnDhThree'. -/
def fnDhThreeUptoCard : Claim7 := { stood := { row := fnDhThreeUptoRow, standIns := [], harness := (true, "8e5b556704087aa3bc7dab8b871d2c8fe7e780233e77f705e5fb8eff7ea4ef64"), looks := false }, kinds := [], alts := [], laidByText := true, laidKinds := [.data], laidTests := true, laidLooks := .later }
def FnDhThreeUptoCardSaid : Prop := Claim7.holds Tryd.pinned (.plain (OpenSpec.upto fnDhThreeSpec)) fnDhThreeUptoCard
end Rows
end Go.Proofs.YtmladgiiagkgeaaDoor
