/-
  No cell of these rows narrows 'for every input' (looked for: loops, veiled, ifaces, maps, wideKeys, modest, calm, conditions, laid).
  DERIVED. THE GIVEN ROWS OF THIS SEAT. 5 by the template 'for every input the law returns true; each argument reads behind the call as it read before'; 0 by the template 'total and deterministic' (their statements: YtimkcbhebkdiiaaTotals.lean).
  GIVEN WITH THE SEED: the statements are not yours to turn. If you find one false, say at which input.
  Laid BY PROGRAM, IN A SANDBOX (cutbox-rows.mjs): the forced cells as the released guide's own fill.sh prints them over the translation dc309a11d3da4dc1… (all of the seat's roots in one cut). By AI agents, Wed Nov 11 2026. No macro, syntax, notation, axiom, sorry.
-/
import Derived.Test.YtimkcbhebkdiiaaChecked
import GoSem.Claim
import GoSem.ClaimJoined
import GoSem.ClaimMapViews
import Derived.JoinedTies
import Derived.KernelRfl
namespace Go.Proofs.Ytimkcbhebkdiiaa
/- THE CELL 'sum', in the pinned program and in every row, IS THE sha256 OF THE DUMP (.gsa) THAT YtimkcbhebkdiiaaProg.lean LOADS. Nothing in Lean hashes anything: it is a label: what it is worth is what the hold of that sum in a sandbox is worth. -/
noncomputable def Try.pinned : Pinned := { name := "ytimkcbhebkdiiaa", sum := "dc309a11d3da4dc1ed97fc3652e2c3957a7f2269ceb9187cf55dcd735d3bb843", checked := Try.checked }
namespace Rows
def none {H : Type} : Left H := { results := [], args := [] }

/-- 'laws.FnEnvParts': WHATEVER THE INPUT: true; the input reads as it did. -/
def fnEnvPartsSpec : ChangeSpec := { name := "fnEnvParts", fn := fun _ => fun
  | [d] => { results := [.lit (.bool true)], args := [d] }
  | _ => none }
def fnEnvPartsRow : OpenClaim := { program := "ytimkcbhebkdiiaa", sum := "dc309a11d3da4dc1ed97fc3652e2c3957a7f2269ceb9187cf55dcd735d3bb843", func := "loop.example/g00702/laws.FnEnvParts", spec := "fnEnvParts", apart := false }
def FnEnvPartsSaid : Prop := fnEnvPartsRow.holds Try.pinned (OpenSpec.ofChange fnEnvPartsSpec)

/-- ITS FALSE NEIGHBOUR: 'it returns false'. Refute it at one input. -/
def fnEnvPartsWrong : ChangeSpec := { name := "fnEnvParts", fn := fun _ => fun
  | [d] => { results := [.lit (.bool false)], args := [d] }
  | _ => none }
def FnEnvPartsWrongFalsely : Prop := fnEnvPartsRow.holds Try.pinned (OpenSpec.ofChange fnEnvPartsWrong)

/-- 'laws.FnExactHeadBytes': WHATEVER THE INPUT: true; the input reads as it did. -/
def fnExactHeadBytesSpec : ChangeSpec := { name := "fnExactHeadBytes", fn := fun _ => fun
  | [d] => { results := [.lit (.bool true)], args := [d] }
  | _ => none }
def fnExactHeadBytesRow : OpenClaim := { program := "ytimkcbhebkdiiaa", sum := "dc309a11d3da4dc1ed97fc3652e2c3957a7f2269ceb9187cf55dcd735d3bb843", func := "loop.example/g00702/laws.FnExactHeadBytes", spec := "fnExactHeadBytes", apart := false }
def FnExactHeadBytesSaid : Prop := fnExactHeadBytesRow.holds Try.pinned (OpenSpec.ofChange fnExactHeadBytesSpec)

/-- ITS FALSE NEIGHBOUR: 'it returns false'. Refute it at one input. -/
def fnExactHeadBytesWrong : ChangeSpec := { name := "fnExactHeadBytes", fn := fun _ => fun
  | [d] => { results := [.lit (.bool false)], args := [d] }
  | _ => none }
def FnExactHeadBytesWrongFalsely : Prop := fnExactHeadBytesRow.holds Try.pinned (OpenSpec.ofChange fnExactHeadBytesWrong)

/-- 'laws.FnExactMsgBytes': WHATEVER THE INPUT: true; the input reads as it did. -/
def fnExactMsgBytesSpec : ChangeSpec := { name := "fnExactMsgBytes", fn := fun _ => fun
  | [d] => { results := [.lit (.bool true)], args := [d] }
  | _ => none }
def fnExactMsgBytesRow : OpenClaim := { program := "ytimkcbhebkdiiaa", sum := "dc309a11d3da4dc1ed97fc3652e2c3957a7f2269ceb9187cf55dcd735d3bb843", func := "loop.example/g00702/laws.FnExactMsgBytes", spec := "fnExactMsgBytes", apart := false }
def FnExactMsgBytesSaid : Prop := fnExactMsgBytesRow.holds Try.pinned (OpenSpec.ofChange fnExactMsgBytesSpec)

/-- ITS FALSE NEIGHBOUR: 'it returns false'. Refute it at one input. -/
def fnExactMsgBytesWrong : ChangeSpec := { name := "fnExactMsgBytes", fn := fun _ => fun
  | [d] => { results := [.lit (.bool false)], args := [d] }
  | _ => none }
def FnExactMsgBytesWrongFalsely : Prop := fnExactMsgBytesRow.holds Try.pinned (OpenSpec.ofChange fnExactMsgBytesWrong)

/-- 'laws.FnExactInitBytes': WHATEVER THE INPUT: true; the input reads as it did. -/
def fnExactInitBytesSpec : ChangeSpec := { name := "fnExactInitBytes", fn := fun _ => fun
  | [d] => { results := [.lit (.bool true)], args := [d] }
  | _ => none }
def fnExactInitBytesRow : OpenClaim := { program := "ytimkcbhebkdiiaa", sum := "dc309a11d3da4dc1ed97fc3652e2c3957a7f2269ceb9187cf55dcd735d3bb843", func := "loop.example/g00702/laws.FnExactInitBytes", spec := "fnExactInitBytes", apart := false }
def FnExactInitBytesSaid : Prop := fnExactInitBytesRow.holds Try.pinned (OpenSpec.ofChange fnExactInitBytesSpec)

/-- ITS FALSE NEIGHBOUR: 'it returns false'. Refute it at one input. -/
def fnExactInitBytesWrong : ChangeSpec := { name := "fnExactInitBytes", fn := fun _ => fun
  | [d] => { results := [.lit (.bool false)], args := [d] }
  | _ => none }
def FnExactInitBytesWrongFalsely : Prop := fnExactInitBytesRow.holds Try.pinned (OpenSpec.ofChange fnExactInitBytesWrong)

/-- 'laws.FnExactEnvBytes': WHATEVER THE INPUT: true; the input reads as it did. -/
def fnExactEnvBytesSpec : ChangeSpec := { name := "fnExactEnvBytes", fn := fun _ => fun
  | [d] => { results := [.lit (.bool true)], args := [d] }
  | _ => none }
def fnExactEnvBytesRow : OpenClaim := { program := "ytimkcbhebkdiiaa", sum := "dc309a11d3da4dc1ed97fc3652e2c3957a7f2269ceb9187cf55dcd735d3bb843", func := "loop.example/g00702/laws.FnExactEnvBytes", spec := "fnExactEnvBytes", apart := false }
def FnExactEnvBytesSaid : Prop := fnExactEnvBytesRow.holds Try.pinned (OpenSpec.ofChange fnExactEnvBytesSpec)

/-- ITS FALSE NEIGHBOUR: 'it returns false'. Refute it at one input. -/
def fnExactEnvBytesWrong : ChangeSpec := { name := "fnExactEnvBytes", fn := fun _ => fun
  | [d] => { results := [.lit (.bool false)], args := [d] }
  | _ => none }
def FnExactEnvBytesWrongFalsely : Prop := fnExactEnvBytesRow.holds Try.pinned (OpenSpec.ofChange fnExactEnvBytesWrong)

/- THE SECOND FORM. 'bulk': how many values and letters a reading holds, each counted each time it is reached (what is shared counts as often as it is met; a slice's spare places count too). A statement '..UptoSaid' is the law's where the arguments, and the package variables that the reading takes, are together of bulk at most 1048576: NARROWER than '..Said'. Prove '..Said' where nothing that the law and all that it calls make is longer than what came in: it says more and counts as full. Else prove '..UptoSaid'. A law counts once. -/
mutual
def uptoBulk {H : Type} : DataW H → Nat
  | .lit (.string bytes) => bytes.length + 1
  | .lit _ => 1
  | .nil => 1
  | .ptr d => uptoBulk d + 1
  | .slice elems spare => uptoBulkAll elems + uptoBulkAll spare + 1
  | .agg parts => uptoBulkAll parts + 1
  | .iface _ d => uptoBulk d + 1
  | .map entries => uptoBulkEntries entries + 1
  | .held _ => 1
def uptoBulkAll {H : Type} : List (DataW H) → Nat
  | [] => 0
  | d :: r => uptoBulk d + uptoBulkAll r
def uptoBulkEntries {H : Type} : List (Lit × DataW H) → Nat
  | [] => 0
  | x :: r => uptoBulkEntry x + uptoBulkEntries r
def uptoBulkEntry {H : Type} : Lit × DataW H → Nat
  | (.string bytes, d) => bytes.length + uptoBulk d + 1
  | (_, d) => uptoBulk d + 1
 end
def uptoSmall : (H : Type) → List (DataW H) → Bool := fun _ ds => decide (uptoBulkAll ds ≤ 1048576)
def OpenSpec.upto (s : _root_.Go.ChangeSpec) : _root_.Go.OpenSpec := { _root_.Go.OpenSpec.ofChange s with cond := some uptoSmall }

/-- 'laws.FnEnvParts', WHERE WHAT IT READS IS OF BULK AT MOST 1048576: true; the input reads as it did. -/
def fnEnvPartsUptoRow : OpenClaim := { program := "ytimkcbhebkdiiaa", sum := "dc309a11d3da4dc1ed97fc3652e2c3957a7f2269ceb9187cf55dcd735d3bb843", func := "loop.example/g00702/laws.FnEnvParts", spec := "fnEnvParts", apart := false, narrowed := true }
def FnEnvPartsUptoSaid : Prop := fnEnvPartsUptoRow.holds Try.pinned (OpenSpec.upto fnEnvPartsSpec)

/-- 'laws.FnExactHeadBytes', WHERE WHAT IT READS IS OF BULK AT MOST 1048576: true; the input reads as it did. -/
def fnExactHeadBytesUptoRow : OpenClaim := { program := "ytimkcbhebkdiiaa", sum := "dc309a11d3da4dc1ed97fc3652e2c3957a7f2269ceb9187cf55dcd735d3bb843", func := "loop.example/g00702/laws.FnExactHeadBytes", spec := "fnExactHeadBytes", apart := false, narrowed := true }
def FnExactHeadBytesUptoSaid : Prop := fnExactHeadBytesUptoRow.holds Try.pinned (OpenSpec.upto fnExactHeadBytesSpec)

/-- 'laws.FnExactMsgBytes', WHERE WHAT IT READS IS OF BULK AT MOST 1048576: true; the input reads as it did. -/
def fnExactMsgBytesUptoRow : OpenClaim := { program := "ytimkcbhebkdiiaa", sum := "dc309a11d3da4dc1ed97fc3652e2c3957a7f2269ceb9187cf55dcd735d3bb843", func := "loop.example/g00702/laws.FnExactMsgBytes", spec := "fnExactMsgBytes", apart := false, narrowed := true }
def FnExactMsgBytesUptoSaid : Prop := fnExactMsgBytesUptoRow.holds Try.pinned (OpenSpec.upto fnExactMsgBytesSpec)

/-- 'laws.FnExactInitBytes', WHERE WHAT IT READS IS OF BULK AT MOST 1048576: true; the input reads as it did. -/
def fnExactInitBytesUptoRow : OpenClaim := { program := "ytimkcbhebkdiiaa", sum := "dc309a11d3da4dc1ed97fc3652e2c3957a7f2269ceb9187cf55dcd735d3bb843", func := "loop.example/g00702/laws.FnExactInitBytes", spec := "fnExactInitBytes", apart := false, narrowed := true }
def FnExactInitBytesUptoSaid : Prop := fnExactInitBytesUptoRow.holds Try.pinned (OpenSpec.upto fnExactInitBytesSpec)

/-- 'laws.FnExactEnvBytes', WHERE WHAT IT READS IS OF BULK AT MOST 1048576: true; the input reads as it did. -/
def fnExactEnvBytesUptoRow : OpenClaim := { program := "ytimkcbhebkdiiaa", sum := "dc309a11d3da4dc1ed97fc3652e2c3957a7f2269ceb9187cf55dcd735d3bb843", func := "loop.example/g00702/laws.FnExactEnvBytes", spec := "fnExactEnvBytes", apart := false, narrowed := true }
def FnExactEnvBytesUptoSaid : Prop := fnExactEnvBytesUptoRow.holds Try.pinned (OpenSpec.upto fnExactEnvBytesSpec)

end Rows
end Go.Proofs.Ytimkcbhebkdiiaa
