/-
  NARROWER THAN 'FOR EVERY INPUT', by the rows' own cells (each row's printed sentence says how): FnInv: laid · FnClamped: laid · FnExactDh: laid · FnExactPublicOf: laid · FnDhHigh: laid · FnDhBase: laid · FnDhLow: laid.
  DERIVED. THE GIVEN ROWS OF THIS SEAT. 7 by the template 'for every input the law returns true; each argument reads behind the call as it read before'; 0 by the template 'total and deterministic' (their statements: YtcaepcfgeelojaaDoorTotals.lean).
  GIVEN WITH THE SEED: the statements are not yours to turn. If you find one false, say at which input.
  Laid BY PROGRAM, IN A SANDBOX (cutbox-rows.mjs): the forced cells as the released guide's own fill.sh prints them over the translation 7ef85318f3673c5d… (all of the seat's roots in one cut). By AI agents, Wed Nov 11 2026. No macro, syntax, notation, axiom, sorry.
-/
import Derived.Test.YtcaepcfgeelojaaDoorChecked
import GoSem.Claim
import GoSem.ClaimJoined
import GoSem.ClaimMapViews
import Derived.JoinedTies
import Derived.KernelRfl
namespace Go.Proofs.YtcaepcfgeelojaaDoor
/- THE CELL 'sum', in the pinned program and in every row, IS THE sha256 OF THE DUMP (.gsa) THAT YtcaepcfgeelojaaDoorProg.lean LOADS. Nothing in Lean hashes anything: it is a label: what it is worth is what the hold of that sum in a sandbox is worth. -/
noncomputable def Tryd.pinned : Pinned := { name := "ytcaepcfgeelojaadoor", sum := "7ef85318f3673c5df31fe0c763d85054af2abf0fc6d2617977563f65e7a95f24", checked := Tryd.checked }
namespace Rows
def none {H : Type} : Left H := { results := [], args := [] }

/- WHAT THE LISTED PACKAGE-LEVEL VARIABLES READ AS WHEN THE CALL BEGINS. Each datum BY PROGRAM (the guide's laid-datum.mjs) off the statement by which the dump's own 'gosem.cut.vars' lays the variable. In a bare row this is a premise. The card (YtcaepcfgeelojaaDoorCards.lean) ties it to the program's text. -/
def laid_loop_example_g00702_impl_prime {H : Type} : DataW H := .agg [.lit (.int .u64 18446744073709551597), .lit (.int .u64 18446744073709551615), .lit (.int .u64 18446744073709551615), .lit (.int .u64 9223372036854775807)]

/-- 'laws.FnInv': WHATEVER THE INPUT: true; the input reads as it did. -/
def fnInvSpec : ChangeSpec := { name := "fnInv", vars := ["loop.example/g00702/impl.prime"], fn := fun _ => fun
  | [d, g1] => { results := [.lit (.bool true)], args := [d], vars := [g1] }
  | _ => none }
def fnInvRow : OpenClaim := { program := "ytcaepcfgeelojaadoor", sum := "7ef85318f3673c5df31fe0c763d85054af2abf0fc6d2617977563f65e7a95f24", func := "loop.example/g00702/laws.FnInv", spec := "fnInv", inPlace := ["math/bits.Sub64", "math/bits.Add64"], unfollowed := true, recurses := true, named := ["loop.example/g00702/impl.prime"], apart := false, laid := [("loop.example/g00702/impl.prime", laid_loop_example_g00702_impl_prime)] }
def FnInvSaid : Prop := fnInvRow.holds Tryd.pinned (OpenSpec.ofChange fnInvSpec)

/-- ITS FALSE NEIGHBOUR: 'it returns false'. Refute it at one input. -/
def fnInvWrong : ChangeSpec := { name := "fnInv", vars := ["loop.example/g00702/impl.prime"], fn := fun _ => fun
  | [d, g1] => { results := [.lit (.bool false)], args := [d], vars := [g1] }
  | _ => none }
def FnInvWrongFalsely : Prop := fnInvRow.holds Tryd.pinned (OpenSpec.ofChange fnInvWrong)

/-- 'laws.FnClamped': WHATEVER THE INPUT: true; the input reads as it did. -/
def fnClampedSpec : ChangeSpec := { name := "fnClamped", vars := ["loop.example/g00702/impl.prime"], fn := fun _ => fun
  | [d, g1] => { results := [.lit (.bool true)], args := [d], vars := [g1] }
  | _ => none }
def fnClampedRow : OpenClaim := { program := "ytcaepcfgeelojaadoor", sum := "7ef85318f3673c5df31fe0c763d85054af2abf0fc6d2617977563f65e7a95f24", func := "loop.example/g00702/laws.FnClamped", spec := "fnClamped", inPlace := ["math/bits.Sub64", "math/bits.Add64"], named := ["loop.example/g00702/impl.prime"], apart := false, laid := [("loop.example/g00702/impl.prime", laid_loop_example_g00702_impl_prime)] }
def FnClampedSaid : Prop := fnClampedRow.holds Tryd.pinned (OpenSpec.ofChange fnClampedSpec)

/-- ITS FALSE NEIGHBOUR: 'it returns false'. Refute it at one input. -/
def fnClampedWrong : ChangeSpec := { name := "fnClamped", vars := ["loop.example/g00702/impl.prime"], fn := fun _ => fun
  | [d, g1] => { results := [.lit (.bool false)], args := [d], vars := [g1] }
  | _ => none }
def FnClampedWrongFalsely : Prop := fnClampedRow.holds Tryd.pinned (OpenSpec.ofChange fnClampedWrong)

/-- 'laws.FnExactDh': WHATEVER THE INPUT: true; the input reads as it did. -/
def fnExactDhSpec : ChangeSpec := { name := "fnExactDh", vars := ["loop.example/g00702/impl.prime"], fn := fun _ => fun
  | [d1, d2, g1] => { results := [.lit (.bool true)], args := [d1, d2], vars := [g1] }
  | _ => none }
def fnExactDhRow : OpenClaim := { program := "ytcaepcfgeelojaadoor", sum := "7ef85318f3673c5df31fe0c763d85054af2abf0fc6d2617977563f65e7a95f24", func := "loop.example/g00702/laws.FnExactDh", spec := "fnExactDh", inPlace := ["math/bits.Sub64", "math/bits.Add64"], named := ["loop.example/g00702/impl.prime"], apart := false, laid := [("loop.example/g00702/impl.prime", laid_loop_example_g00702_impl_prime)] }
def FnExactDhSaid : Prop := fnExactDhRow.holds Tryd.pinned (OpenSpec.ofChange fnExactDhSpec)

/-- ITS FALSE NEIGHBOUR: 'it returns false'. Refute it at one input. -/
def fnExactDhWrong : ChangeSpec := { name := "fnExactDh", vars := ["loop.example/g00702/impl.prime"], fn := fun _ => fun
  | [d1, d2, g1] => { results := [.lit (.bool false)], args := [d1, d2], vars := [g1] }
  | _ => none }
def FnExactDhWrongFalsely : Prop := fnExactDhRow.holds Tryd.pinned (OpenSpec.ofChange fnExactDhWrong)

/-- 'laws.FnExactPublicOf': WHATEVER THE INPUT: true; the input reads as it did. -/
def fnExactPublicOfSpec : ChangeSpec := { name := "fnExactPublicOf", vars := ["loop.example/g00702/impl.prime"], fn := fun _ => fun
  | [d, g1] => { results := [.lit (.bool true)], args := [d], vars := [g1] }
  | _ => none }
def fnExactPublicOfRow : OpenClaim := { program := "ytcaepcfgeelojaadoor", sum := "7ef85318f3673c5df31fe0c763d85054af2abf0fc6d2617977563f65e7a95f24", func := "loop.example/g00702/laws.FnExactPublicOf", spec := "fnExactPublicOf", inPlace := ["math/bits.Sub64", "math/bits.Add64"], named := ["loop.example/g00702/impl.prime"], apart := false, laid := [("loop.example/g00702/impl.prime", laid_loop_example_g00702_impl_prime)] }
def FnExactPublicOfSaid : Prop := fnExactPublicOfRow.holds Tryd.pinned (OpenSpec.ofChange fnExactPublicOfSpec)

/-- ITS FALSE NEIGHBOUR: 'it returns false'. Refute it at one input. -/
def fnExactPublicOfWrong : ChangeSpec := { name := "fnExactPublicOf", vars := ["loop.example/g00702/impl.prime"], fn := fun _ => fun
  | [d, g1] => { results := [.lit (.bool false)], args := [d], vars := [g1] }
  | _ => none }
def FnExactPublicOfWrongFalsely : Prop := fnExactPublicOfRow.holds Tryd.pinned (OpenSpec.ofChange fnExactPublicOfWrong)

/-- 'laws.FnDhHigh': WHATEVER THE INPUT: true; the input reads as it did. -/
def fnDhHighSpec : ChangeSpec := { name := "fnDhHigh", vars := ["loop.example/g00702/impl.prime"], fn := fun _ => fun
  | [d, g1] => { results := [.lit (.bool true)], args := [d], vars := [g1] }
  | _ => none }
def fnDhHighRow : OpenClaim := { program := "ytcaepcfgeelojaadoor", sum := "7ef85318f3673c5df31fe0c763d85054af2abf0fc6d2617977563f65e7a95f24", func := "loop.example/g00702/laws.FnDhHigh", spec := "fnDhHigh", inPlace := ["math/bits.Sub64", "math/bits.Add64"], named := ["loop.example/g00702/impl.prime"], apart := false, laid := [("loop.example/g00702/impl.prime", laid_loop_example_g00702_impl_prime)] }
def FnDhHighSaid : Prop := fnDhHighRow.holds Tryd.pinned (OpenSpec.ofChange fnDhHighSpec)

/-- ITS FALSE NEIGHBOUR: 'it returns false'. Refute it at one input. -/
def fnDhHighWrong : ChangeSpec := { name := "fnDhHigh", vars := ["loop.example/g00702/impl.prime"], fn := fun _ => fun
  | [d, g1] => { results := [.lit (.bool false)], args := [d], vars := [g1] }
  | _ => none }
def FnDhHighWrongFalsely : Prop := fnDhHighRow.holds Tryd.pinned (OpenSpec.ofChange fnDhHighWrong)

/-- 'laws.FnDhBase': WHATEVER THE INPUT: true; the input reads as it did. -/
def fnDhBaseSpec : ChangeSpec := { name := "fnDhBase", vars := ["loop.example/g00702/impl.prime"], fn := fun _ => fun
  | [d, g1] => { results := [.lit (.bool true)], args := [d], vars := [g1] }
  | _ => none }
def fnDhBaseRow : OpenClaim := { program := "ytcaepcfgeelojaadoor", sum := "7ef85318f3673c5df31fe0c763d85054af2abf0fc6d2617977563f65e7a95f24", func := "loop.example/g00702/laws.FnDhBase", spec := "fnDhBase", inPlace := ["math/bits.Sub64", "math/bits.Add64"], named := ["loop.example/g00702/impl.prime"], apart := false, laid := [("loop.example/g00702/impl.prime", laid_loop_example_g00702_impl_prime)] }
def FnDhBaseSaid : Prop := fnDhBaseRow.holds Tryd.pinned (OpenSpec.ofChange fnDhBaseSpec)

/-- ITS FALSE NEIGHBOUR: 'it returns false'. Refute it at one input. -/
def fnDhBaseWrong : ChangeSpec := { name := "fnDhBase", vars := ["loop.example/g00702/impl.prime"], fn := fun _ => fun
  | [d, g1] => { results := [.lit (.bool false)], args := [d], vars := [g1] }
  | _ => none }
def FnDhBaseWrongFalsely : Prop := fnDhBaseRow.holds Tryd.pinned (OpenSpec.ofChange fnDhBaseWrong)

/-- 'laws.FnDhLow': WHATEVER THE INPUT: true; the input reads as it did. -/
def fnDhLowSpec : ChangeSpec := { name := "fnDhLow", vars := ["loop.example/g00702/impl.prime"], fn := fun _ => fun
  | [d, g1] => { results := [.lit (.bool true)], args := [d], vars := [g1] }
  | _ => none }
def fnDhLowRow : OpenClaim := { program := "ytcaepcfgeelojaadoor", sum := "7ef85318f3673c5df31fe0c763d85054af2abf0fc6d2617977563f65e7a95f24", func := "loop.example/g00702/laws.FnDhLow", spec := "fnDhLow", inPlace := ["math/bits.Sub64", "math/bits.Add64"], named := ["loop.example/g00702/impl.prime"], apart := false, laid := [("loop.example/g00702/impl.prime", laid_loop_example_g00702_impl_prime)] }
def FnDhLowSaid : Prop := fnDhLowRow.holds Tryd.pinned (OpenSpec.ofChange fnDhLowSpec)

/-- ITS FALSE NEIGHBOUR: 'it returns false'. Refute it at one input. -/
def fnDhLowWrong : ChangeSpec := { name := "fnDhLow", vars := ["loop.example/g00702/impl.prime"], fn := fun _ => fun
  | [d, g1] => { results := [.lit (.bool false)], args := [d], vars := [g1] }
  | _ => none }
def FnDhLowWrongFalsely : Prop := fnDhLowRow.holds Tryd.pinned (OpenSpec.ofChange fnDhLowWrong)

/- THE SECOND FORM. 'bulk': how many values and letters a reading holds, each counted each time it is reached (what is shared counts as often as it is met; a slice's spare places count too). A statement '..UptoSaid' is the law's where the arguments, and the package variables that the reading takes, are together of bulk at most 1048576: NARROWER than '..Said'. Prove '..Said' where nothing that the law and all that it calls make is longer than what came in: it says more and counts as full. Else prove '..UptoSaid'. A law counts once. -/
mutual
def uptoBulk {H : Type} : DataW H → Nat
  | .lit (.string bytes) => bytes.length + 1
  | .lit _ => 1
  | .nil => 1
  | .ptr d => uptoBulk d + 1
  | .slice elems spare => uptoBulkAll elems + uptoBulkAll spare + 1
  | .agg parts => uptoBulkAll parts + 1
  | .iface _ d => uptoBulk d + 1
  | .map entries => uptoBulkEntries entries + 1
  | .held _ => 1
def uptoBulkAll {H : Type} : List (DataW H) → Nat
  | [] => 0
  | d :: r => uptoBulk d + uptoBulkAll r
def uptoBulkEntries {H : Type} : List (Lit × DataW H) → Nat
  | [] => 0
  | x :: r => uptoBulkEntry x + uptoBulkEntries r
def uptoBulkEntry {H : Type} : Lit × DataW H → Nat
  | (.string bytes, d) => bytes.length + uptoBulk d + 1
  | (_, d) => uptoBulk d + 1
 end
def uptoSmall : (H : Type) → List (DataW H) → Bool := fun _ ds => decide (uptoBulkAll ds ≤ 1048576)
def OpenSpec.upto (s : _root_.Go.ChangeSpec) : _root_.Go.OpenSpec := { _root_.Go.OpenSpec.ofChange s with cond := some uptoSmall }

/-- 'laws.FnInv', WHERE WHAT IT READS IS OF BULK AT MOST 1048576: true; the input reads as it did. -/
def fnInvUptoRow : OpenClaim := { program := "ytcaepcfgeelojaadoor", sum := "7ef85318f3673c5df31fe0c763d85054af2abf0fc6d2617977563f65e7a95f24", func := "loop.example/g00702/laws.FnInv", spec := "fnInv", inPlace := ["math/bits.Sub64", "math/bits.Add64"], unfollowed := true, recurses := true, named := ["loop.example/g00702/impl.prime"], apart := false, laid := [("loop.example/g00702/impl.prime", laid_loop_example_g00702_impl_prime)], narrowed := true }
def FnInvUptoSaid : Prop := fnInvUptoRow.holds Tryd.pinned (OpenSpec.upto fnInvSpec)

/-- 'laws.FnClamped', WHERE WHAT IT READS IS OF BULK AT MOST 1048576: true; the input reads as it did. -/
def fnClampedUptoRow : OpenClaim := { program := "ytcaepcfgeelojaadoor", sum := "7ef85318f3673c5df31fe0c763d85054af2abf0fc6d2617977563f65e7a95f24", func := "loop.example/g00702/laws.FnClamped", spec := "fnClamped", inPlace := ["math/bits.Sub64", "math/bits.Add64"], named := ["loop.example/g00702/impl.prime"], apart := false, laid := [("loop.example/g00702/impl.prime", laid_loop_example_g00702_impl_prime)], narrowed := true }
def FnClampedUptoSaid : Prop := fnClampedUptoRow.holds Tryd.pinned (OpenSpec.upto fnClampedSpec)

/-- 'laws.FnExactDh', WHERE WHAT IT READS IS OF BULK AT MOST 1048576: true; the input reads as it did. -/
def fnExactDhUptoRow : OpenClaim := { program := "ytcaepcfgeelojaadoor", sum := "7ef85318f3673c5df31fe0c763d85054af2abf0fc6d2617977563f65e7a95f24", func := "loop.example/g00702/laws.FnExactDh", spec := "fnExactDh", inPlace := ["math/bits.Sub64", "math/bits.Add64"], named := ["loop.example/g00702/impl.prime"], apart := false, laid := [("loop.example/g00702/impl.prime", laid_loop_example_g00702_impl_prime)], narrowed := true }
def FnExactDhUptoSaid : Prop := fnExactDhUptoRow.holds Tryd.pinned (OpenSpec.upto fnExactDhSpec)

/-- 'laws.FnExactPublicOf', WHERE WHAT IT READS IS OF BULK AT MOST 1048576: true; the input reads as it did. -/
def fnExactPublicOfUptoRow : OpenClaim := { program := "ytcaepcfgeelojaadoor", sum := "7ef85318f3673c5df31fe0c763d85054af2abf0fc6d2617977563f65e7a95f24", func := "loop.example/g00702/laws.FnExactPublicOf", spec := "fnExactPublicOf", inPlace := ["math/bits.Sub64", "math/bits.Add64"], named := ["loop.example/g00702/impl.prime"], apart := false, laid := [("loop.example/g00702/impl.prime", laid_loop_example_g00702_impl_prime)], narrowed := true }
def FnExactPublicOfUptoSaid : Prop := fnExactPublicOfUptoRow.holds Tryd.pinned (OpenSpec.upto fnExactPublicOfSpec)

/-- 'laws.FnDhHigh', WHERE WHAT IT READS IS OF BULK AT MOST 1048576: true; the input reads as it did. -/
def fnDhHighUptoRow : OpenClaim := { program := "ytcaepcfgeelojaadoor", sum := "7ef85318f3673c5df31fe0c763d85054af2abf0fc6d2617977563f65e7a95f24", func := "loop.example/g00702/laws.FnDhHigh", spec := "fnDhHigh", inPlace := ["math/bits.Sub64", "math/bits.Add64"], named := ["loop.example/g00702/impl.prime"], apart := false, laid := [("loop.example/g00702/impl.prime", laid_loop_example_g00702_impl_prime)], narrowed := true }
def FnDhHighUptoSaid : Prop := fnDhHighUptoRow.holds Tryd.pinned (OpenSpec.upto fnDhHighSpec)

/-- 'laws.FnDhBase', WHERE WHAT IT READS IS OF BULK AT MOST 1048576: true; the input reads as it did. -/
def fnDhBaseUptoRow : OpenClaim := { program := "ytcaepcfgeelojaadoor", sum := "7ef85318f3673c5df31fe0c763d85054af2abf0fc6d2617977563f65e7a95f24", func := "loop.example/g00702/laws.FnDhBase", spec := "fnDhBase", inPlace := ["math/bits.Sub64", "math/bits.Add64"], named := ["loop.example/g00702/impl.prime"], apart := false, laid := [("loop.example/g00702/impl.prime", laid_loop_example_g00702_impl_prime)], narrowed := true }
def FnDhBaseUptoSaid : Prop := fnDhBaseUptoRow.holds Tryd.pinned (OpenSpec.upto fnDhBaseSpec)

/-- 'laws.FnDhLow', WHERE WHAT IT READS IS OF BULK AT MOST 1048576: true; the input reads as it did. -/
def fnDhLowUptoRow : OpenClaim := { program := "ytcaepcfgeelojaadoor", sum := "7ef85318f3673c5df31fe0c763d85054af2abf0fc6d2617977563f65e7a95f24", func := "loop.example/g00702/laws.FnDhLow", spec := "fnDhLow", inPlace := ["math/bits.Sub64", "math/bits.Add64"], named := ["loop.example/g00702/impl.prime"], apart := false, laid := [("loop.example/g00702/impl.prime", laid_loop_example_g00702_impl_prime)], narrowed := true }
def FnDhLowUptoSaid : Prop := fnDhLowUptoRow.holds Tryd.pinned (OpenSpec.upto fnDhLowSpec)

end Rows
end Go.Proofs.YtcaepcfgeelojaaDoor
