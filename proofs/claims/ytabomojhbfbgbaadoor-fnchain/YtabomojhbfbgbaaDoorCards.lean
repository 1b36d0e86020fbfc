/-
  DERIVED. GIVEN WITH THE SEED: THE CARDS: each row of YtabomojhbfbgbaaDoorRows.lean that lists a variable, with what it lists TIED to the program's text (the seventh form; the later family's looks); each row that meets fmt, with fmt's text TOLD by the authors' own Lean function (tested against real Go, not proved from fmt's source: count such statements apart). THE CARD IS WHAT COUNTS. Prove the row's statement (the work); the ties are given (YtabomojhbfbgbaaDoorTie.lean); close each card by the builder's one call (the guide's Derived/Test/ToyasCard.lean, 'card_holds'). Laid BY PROGRAM, IN A SANDBOX (cutbox-door.mjs). By AI agents, Wed Nov 11 2026. No macro, syntax, notation, axiom, sorry.
-/
import Derived.Test.YtabomojhbfbgbaaDoorRows
import GoSem.ClaimSeven
namespace Go.Proofs.YtabomojhbfbgbaaDoor
namespace Rows

/-- THE TIED CARD OF 'laws.FnHmac'. -/
def fnHmacCard : Claim7 := { stood := { row := fnHmacRow, standIns := [], harness := (true, "72e4fe2f42d56833946a437f291f73ef12f7336c9681993eb23876446b8348e5"), looks := false }, kinds := [], alts := [], laidByText := true, laidKinds := [.data], laidTests := true, laidLooks := .later }
def FnHmacCardSaid : Prop := Claim7.holds Tryd.pinned (.plain (OpenSpec.ofChange fnHmacSpec)) fnHmacCard

/-- THE TIED CARD OF 'laws.FnHkdf'. -/
def fnHkdfCard : Claim7 := { stood := { row := fnHkdfRow, standIns := [], harness := (true, "72e4fe2f42d56833946a437f291f73ef12f7336c9681993eb23876446b8348e5"), looks := false }, kinds := [], alts := [], laidByText := true, laidKinds := [.data], laidTests := true, laidLooks := .later }
def FnHkdfCardSaid : Prop := Claim7.holds Tryd.pinned (.plain (OpenSpec.ofChange fnHkdfSpec)) fnHkdfCard

/-- THE TIED CARD OF 'laws.FnExactChainStep'. -/
def fnExactChainStepCard : Claim7 := { stood := { row := fnExactChainStepRow, standIns := [], harness := (true, "72e4fe2f42d56833946a437f291f73ef12f7336c9681993eb23876446b8348e5"), looks := false }, kinds := [], alts := [], laidByText := true, laidKinds := [.data], laidTests := true, laidLooks := .later }
def FnExactChainStepCardSaid : Prop := Claim7.holds Tryd.pinned (.plain (OpenSpec.ofChange fnExactChainStepSpec)) fnExactChainStepCard

/-- THE TIED CARD OF 'laws.FnExactChainKey'. -/
def fnExactChainKeyCard : Claim7 := { stood := { row := fnExactChainKeyRow, standIns := [], harness := (true, "72e4fe2f42d56833946a437f291f73ef12f7336c9681993eb23876446b8348e5"), looks := false }, kinds := [], alts := [], laidByText := true, laidKinds := [.data], laidTests := true, laidLooks := .later }
def FnExactChainKeyCardSaid : Prop := Claim7.holds Tryd.pinned (.plain (OpenSpec.ofChange fnExactChainKeySpec)) fnExactChainKeyCard

/-- THE TIED CARD OF 'laws.FnExactRootStep'. -/
def fnExactRootStepCard : Claim7 := { stood := { row := fnExactRootStepRow, standIns := [], harness := (true, "72e4fe2f42d56833946a437f291f73ef12f7336c9681993eb23876446b8348e5"), looks := false }, kinds := [], alts := [], laidByText := true, laidKinds := [.data], laidTests := true, laidLooks := .later }
def FnExactRootStepCardSaid : Prop := Claim7.holds Tryd.pinned (.plain (OpenSpec.ofChange fnExactRootStepSpec)) fnExactRootStepCard

/-- THE TIED CARD OF 'laws.FnChain'. -/
def fnChainCard : Claim7 := { stood := { row := fnChainRow, standIns := [], harness := (true, "72e4fe2f42d56833946a437f291f73ef12f7336c9681993eb23876446b8348e5"), looks := false }, kinds := [], alts := [], laidByText := true, laidKinds := [.data], laidTests := true, laidLooks := .later }
def FnChainCardSaid : Prop := Claim7.holds Tryd.pinned (.plain (OpenSpec.ofChange fnChainSpec)) fnChainCard

/-- THE SECOND FORM's CARD OF 'laws.FnHmac'. -/
def fnHmacUptoCard : Claim7 := { stood := { row := fnHmacUptoRow, standIns := [], harness := (true, "72e4fe2f42d56833946a437f291f73ef12f7336c9681993eb23876446b8348e5"), looks := false }, kinds := [], alts := [], laidByText := true, laidKinds := [.data], laidTests := true, laidLooks := .later }
def FnHmacUptoCardSaid : Prop := Claim7.holds Tryd.pinned (.plain (OpenSpec.upto fnHmacSpec)) fnHmacUptoCard

/-- THE SECOND FORM's CARD OF 'laws.FnHkdf'. -/
def fnHkdfUptoCard : Claim7 := { stood := { row := fnHkdfUptoRow, standIns := [], harness := (true, "72e4fe2f42d56833946a437f291f73ef12f7336c9681993eb23876446b8348e5"), looks := false }, kinds := [], alts := [], laidByText := true, laidKinds := [.data], laidTests := true, laidLooks := .later }
def FnHkdfUptoCardSaid : Prop := Claim7.holds Tryd.pinned (.plain (OpenSpec.upto fnHkdfSpec)) fnHkdfUptoCard

/-- THE SECOND FORM's CARD OF 'laws.FnExactChainStep'. -/
def fnExactChainStepUptoCard : Claim7 := { stood := { row := fnExactChainStepUptoRow, standIns := [], harness := (true, "72e4fe2f42d56833946a437f291f73ef12f7336c9681993eb23876446b8348e5"), looks := false }, kinds := [], alts := [], laidByText := true, laidKinds := [.data], laidTests := true, laidLooks := .later }
def FnExactChainStepUptoCardSaid : Prop := Claim7.holds Tryd.pinned (.plain (OpenSpec.upto fnExactChainStepSpec)) fnExactChainStepUptoCard

/-- THE SECOND FORM's CARD OF 'laws.FnExactChainKey'. -/
def fnExactChainKeyUptoCard : Claim7 := { stood := { row := fnExactChainKeyUptoRow, standIns := [], harness := (true, "72e4fe2f42d56833946a437f291f73ef12f7336c9681993eb23876446b8348e5"), looks := false }, kinds := [], alts := [], laidByText := true, laidKinds := [.data], laidTests := true, laidLooks := .later }
def FnExactChainKeyUptoCardSaid : Prop := Claim7.holds Tryd.pinned (.plain (OpenSpec.upto fnExactChainKeySpec)) fnExactChainKeyUptoCard

/-- THE SECOND FORM's CARD OF 'laws.FnExactRootStep'. -/
def fnExactRootStepUptoCard : Claim7 := { stood := { row := fnExactRootStepUptoRow, standIns := [], harness := (true, "72e4fe2f42d56833946a437f291f73ef12f7336c9681993eb23876446b8348e5"), looks := false }, kinds := [], alts := [], laidByText := true, laidKinds := [.data], laidTests := true, laidLooks := .later }
def FnExactRootStepUptoCardSaid : Prop := Claim7.holds Tryd.pinned (.plain (OpenSpec.upto fnExactRootStepSpec)) fnExactRootStepUptoCard

/-- THE SECOND FORM's CARD OF 'laws.FnChain'. -/
def fnChainUptoCard : Claim7 := { stood := { row := fnChainUptoRow, standIns := [], harness := (true, "72e4fe2f42d56833946a437f291f73ef12f7336c9681993eb23876446b8348e5"), looks := false }, kinds := [], alts := [], laidByText := true, laidKinds := [.data], laidTests := true, laidLooks := .later }
def FnChainUptoCardSaid : Prop := Claim7.holds Tryd.pinned (.plain (OpenSpec.upto fnChainSpec)) fnChainUptoCard
end Rows
end Go.Proofs.YtabomojhbfbgbaaDoor
