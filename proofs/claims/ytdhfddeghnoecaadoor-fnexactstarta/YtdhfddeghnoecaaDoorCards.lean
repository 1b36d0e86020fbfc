/-
  DERIVED. GIVEN WITH THE SEED: THE CARDS: each row of YtdhfddeghnoecaaDoorRows.lean that lists a variable, with what it lists TIED to the program's text (the seventh form; the later family's looks); each row that meets fmt, with fmt's text TOLD by the authors' own Lean function (tested against real Go, not proved from fmt's source: count such statements apart). THE CARD IS WHAT COUNTS. Prove the row's statement (the work); the ties are given (YtdhfddeghnoecaaDoorTie.lean); close each card by the builder's one call (the guide's Derived/Test/ToyasCard.lean, 'card_holds'). Laid BY PROGRAM, IN A SANDBOX (cutbox-door.mjs). By AI agents, Wed Nov 11 2026. No macro, syntax, notation, axiom, sorry.
-/
import Derived.Test.YtdhfddeghnoecaaDoorRows
import GoSem.ClaimSeven
namespace Go.Proofs.YtdhfddeghnoecaaDoor
namespace Rows

/-- THE TIED CARD OF 'laws.FnExactStartA'. -/
def fnExactStartACard : Claim7 := { stood := { row := fnExactStartARow, standIns := [], harness := (true, "fdf02eacc85935782a9abaef32c185f75700c8a98312fa1a41812faa0e0b0eab"), looks := false }, kinds := [], alts := [], laidByText := true, laidKinds := [.data, .data], laidTests := true, laidLooks := .later }
def FnExactStartACardSaid : Prop := Claim7.holds Tryd.pinned (.plain (OpenSpec.ofChange fnExactStartASpec)) fnExactStartACard

/-- THE TIED CARD OF 'laws.FnExactStartB'. -/
def fnExactStartBCard : Claim7 := { stood := { row := fnExactStartBRow, standIns := [], harness := (true, "fdf02eacc85935782a9abaef32c185f75700c8a98312fa1a41812faa0e0b0eab"), looks := false }, kinds := [], alts := [], laidByText := true, laidKinds := [.data], laidTests := true, laidLooks := .later }
def FnExactStartBCardSaid : Prop := Claim7.holds Tryd.pinned (.plain (OpenSpec.ofChange fnExactStartBSpec)) fnExactStartBCard

/-- THE TIED CARD OF 'laws.FnExactSharedA'. -/
def fnExactSharedACard : Claim7 := { stood := { row := fnExactSharedARow, standIns := [], harness := (true, "fdf02eacc85935782a9abaef32c185f75700c8a98312fa1a41812faa0e0b0eab"), looks := false }, kinds := [], alts := [], laidByText := true, laidKinds := [.data, .data], laidTests := true, laidLooks := .later }
def FnExactSharedACardSaid : Prop := Claim7.holds Tryd.pinned (.plain (OpenSpec.ofChange fnExactSharedASpec)) fnExactSharedACard

/-- THE TIED CARD OF 'laws.FnExactSharedB'. -/
def fnExactSharedBCard : Claim7 := { stood := { row := fnExactSharedBRow, standIns := [], harness := (true, "fdf02eacc85935782a9abaef32c185f75700c8a98312fa1a41812faa0e0b0eab"), looks := false }, kinds := [], alts := [], laidByText := true, laidKinds := [.data, .data], laidTests := true, laidLooks := .later }
def FnExactSharedBCardSaid : Prop := Claim7.holds Tryd.pinned (.plain (OpenSpec.ofChange fnExactSharedBSpec)) fnExactSharedBCard

/-- THE SECOND FORM's CARD OF 'laws.FnExactStartA'. -/
def fnExactStartAUptoCard : Claim7 := { stood := { row := fnExactStartAUptoRow, standIns := [], harness := (true, "fdf02eacc85935782a9abaef32c185f75700c8a98312fa1a41812faa0e0b0eab"), looks := false }, kinds := [], alts := [], laidByText := true, laidKinds := [.data, .data], laidTests := true, laidLooks := .later }
def FnExactStartAUptoCardSaid : Prop := Claim7.holds Tryd.pinned (.plain (OpenSpec.upto fnExactStartASpec)) fnExactStartAUptoCard

/-- THE SECOND FORM's CARD OF 'laws.FnExactStartB'. -/
def fnExactStartBUptoCard : Claim7 := { stood := { row := fnExactStartBUptoRow, standIns := [], harness := (true, "fdf02eacc85935782a9abaef32c185f75700c8a98312fa1a41812faa0e0b0eab"), looks := false }, kinds := [], alts := [], laidByText := true, laidKinds := [.data], laidTests := true, laidLooks := .later }
def FnExactStartBUptoCardSaid : Prop := Claim7.holds Tryd.pinned (.plain (OpenSpec.upto fnExactStartBSpec)) fnExactStartBUptoCard

/-- THE SECOND FORM's CARD OF 'laws.FnExactSharedA'. -/
def fnExactSharedAUptoCard : Claim7 := { stood := { row := fnExactSharedAUptoRow, standIns := [], harness := (true, "fdf02eacc85935782a9abaef32c185f75700c8a98312fa1a41812faa0e0b0eab"), looks := false }, kinds := [], alts := [], laidByText := true, laidKinds := [.data, .data], laidTests := true, laidLooks := .later }
def FnExactSharedAUptoCardSaid : Prop := Claim7.holds Tryd.pinned (.plain (OpenSpec.upto fnExactSharedASpec)) fnExactSharedAUptoCard

/-- THE SECOND FORM's CARD OF 'laws.FnExactSharedB'. -/
def fnExactSharedBUptoCard : Claim7 := { stood := { row := fnExactSharedBUptoRow, standIns := [], harness := (true, "fdf02eacc85935782a9abaef32c185f75700c8a98312fa1a41812faa0e0b0eab"), looks := false }, kinds := [], alts := [], laidByText := true, laidKinds := [.data, .data], laidTests := true, laidLooks := .later }
def FnExactSharedBUptoCardSaid : Prop := Claim7.holds Tryd.pinned (.plain (OpenSpec.upto fnExactSharedBSpec)) fnExactSharedBUptoCard
end Rows
end Go.Proofs.YtdhfddeghnoecaaDoor
