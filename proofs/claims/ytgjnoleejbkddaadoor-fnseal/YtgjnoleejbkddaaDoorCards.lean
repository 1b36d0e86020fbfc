/-
  DERIVED. GIVEN WITH THE SEED: THE CARDS: each row of YtgjnoleejbkddaaDoorRows.lean that lists a variable, with what it lists TIED to the program's text (the seventh form; the later family's looks); each row that meets fmt, with fmt's text TOLD by the authors' own Lean function (tested against real Go, not proved from fmt's source: count such statements apart). THE CARD IS WHAT COUNTS. Prove the row's statement (the work); the ties are given (YtgjnoleejbkddaaDoorTie.lean); close each card by the builder's one call (the guide's Derived/Test/ToyasCard.lean, 'card_holds'). Laid BY PROGRAM, IN A SANDBOX (cutbox-door.mjs). By AI agents, Wed Nov 11 2026. No macro, syntax, notation, axiom, sorry.
-/
import Derived.Test.YtgjnoleejbkddaaDoorRows
import GoSem.ClaimSeven
namespace Go.Proofs.YtgjnoleejbkddaaDoor
namespace Rows

/-- THE TIED CARD OF 'laws.FnExactOpenSeal'. -/
def fnExactOpenSealCard : Claim7 := { stood := { row := fnExactOpenSealRow, standIns := [], harness := (true, "73877321e6bc210bc11adf0acdde60165d4a69b3b92ade5c937b9e4ae328c2dd"), looks := true }, kinds := [], alts := [], laidByText := true, laidKinds := [.data, .sentinel, .sentinel], laidTests := true, laidLooks := .later }
def FnExactOpenSealCardSaid : Prop := Claim7.holds Tryd.pinned (.plain (OpenSpec.ofChange fnExactOpenSealSpec)) fnExactOpenSealCard

/-- THE TIED CARD OF 'laws.FnSeal'. -/
def fnSealCard : Claim7 := { stood := { row := fnSealRow, standIns := [], harness := (true, "73877321e6bc210bc11adf0acdde60165d4a69b3b92ade5c937b9e4ae328c2dd"), looks := true }, kinds := [], alts := [], laidByText := true, laidKinds := [.data, .sentinel, .sentinel], laidTests := true, laidLooks := .later }
def FnSealCardSaid : Prop := Claim7.holds Tryd.pinned (.plain (OpenSpec.ofChange fnSealSpec)) fnSealCard

/-- THE SECOND FORM's CARD OF 'laws.FnExactOpenSeal'. -/
def fnExactOpenSealUptoCard : Claim7 := { stood := { row := fnExactOpenSealUptoRow, standIns := [], harness := (true, "73877321e6bc210bc11adf0acdde60165d4a69b3b92ade5c937b9e4ae328c2dd"), looks := true }, kinds := [], alts := [], laidByText := true, laidKinds := [.data, .sentinel, .sentinel], laidTests := true, laidLooks := .later }
def FnExactOpenSealUptoCardSaid : Prop := Claim7.holds Tryd.pinned (.plain (OpenSpec.upto fnExactOpenSealSpec)) fnExactOpenSealUptoCard

/-- THE SECOND FORM's CARD OF 'laws.FnSeal'. -/
def fnSealUptoCard : Claim7 := { stood := { row := fnSealUptoRow, standIns := [], harness := (true, "73877321e6bc210bc11adf0acdde60165d4a69b3b92ade5c937b9e4ae328c2dd"), looks := true }, kinds := [], alts := [], laidByText := true, laidKinds := [.data, .sentinel, .sentinel], laidTests := true, laidLooks := .later }
def FnSealUptoCardSaid : Prop := Claim7.holds Tryd.pinned (.plain (OpenSpec.upto fnSealSpec)) fnSealUptoCard
end Rows
end Go.Proofs.YtgjnoleejbkddaaDoor
