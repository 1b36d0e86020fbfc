/-
  NARROWER THAN 'FOR EVERY INPUT', by the rows' own cells (each row's printed sentence says how): FnExactReadEnv: ifaces, laid · FnMsgs: ifaces, laid · FnEnvs: ifaces, laid.
  DERIVED. THE GIVEN ROWS OF THIS SEAT. 3 by the template 'for every input the law returns true; each argument reads behind the call as it read before'; 0 by the template 'total and deterministic' (their statements: YtmolcpojdojmlaaDoorTotals.lean).
  GIVEN WITH THE SEED: the statements are not yours to turn. If you find one false, say at which input.
  Laid BY PROGRAM, IN A SANDBOX (cutbox-rows.mjs): the forced cells as the released guide's own fill.sh prints them over the translation e76fbbf0e7969dd6… (all of the seat's roots in one cut). By AI agents, Wed Nov 11 2026. No macro, syntax, notation, axiom, sorry.
-/
import Derived.Test.YtmolcpojdojmlaaDoorChecked
import GoSem.Claim
import GoSem.ClaimJoined
import GoSem.ClaimMapViews
import Derived.JoinedTies
import Derived.KernelRfl
namespace Go.Proofs.YtmolcpojdojmlaaDoor
/- THE CELL 'sum', in the pinned program and in every row, IS THE sha256 OF THE DUMP (.gsa) THAT YtmolcpojdojmlaaDoorProg.lean LOADS. Nothing in Lean hashes anything: it is a label: what it is worth is what the hold of that sum in a sandbox is worth. -/
noncomputable def Tryd.pinned : Pinned := { name := "ytmolcpojdojmlaadoor", sum := "e76fbbf0e7969dd6036f69af6f9804edfdd983962f480bd31cfcbc475f367778", checked := Tryd.checked }
namespace Rows
def none {H : Type} : Left H := { results := [], args := [] }

/- WHAT THE LISTED PACKAGE-LEVEL VARIABLES READ AS WHEN THE CALL BEGINS. Each datum BY PROGRAM (the guide's laid-datum.mjs) off the statement by which the dump's own 'gosem.cut.vars' lays the variable. In a bare row this is a premise. The card (YtmolcpojdojmlaaDoorCards.lean) ties it to the program's text. -/
def laid_loop_example_g00702_impl_errWire {H : Type} : DataW H := .iface "*errors.errorString" (.ptr (.agg [.lit (.string [116, 104, 101, 115, 101, 32, 98, 121, 116, 101, 115, 32, 101, 110, 99, 111, 100, 101, 32, 110, 111, 32, 118, 97, 108, 117, 101])]))

/-- 'laws.FnExactReadEnv': WHATEVER THE INPUT: true; the input reads as it did. -/
def fnExactReadEnvSpec : ChangeSpec := { name := "fnExactReadEnv", vars := ["loop.example/g00702/impl.errWire"], fn := fun _ => fun
  | [d, g1] => { results := [.lit (.bool true)], args := [d], vars := [g1] }
  | _ => none }
def fnExactReadEnvRow : OpenClaim := { program := "ytmolcpojdojmlaadoor", sum := "e76fbbf0e7969dd6036f69af6f9804edfdd983962f480bd31cfcbc475f367778", func := "loop.example/g00702/laws.FnExactReadEnv", spec := "fnExactReadEnv", unfollowed := true, recurses := true, named := ["loop.example/g00702/impl.errWire"], ifaces := true, apart := false, laid := [("loop.example/g00702/impl.errWire", laid_loop_example_g00702_impl_errWire)] }
def FnExactReadEnvSaid : Prop := fnExactReadEnvRow.holds Tryd.pinned (OpenSpec.ofChange fnExactReadEnvSpec)

/-- ITS FALSE NEIGHBOUR: 'it returns false'. Refute it at one input. -/
def fnExactReadEnvWrong : ChangeSpec := { name := "fnExactReadEnv", vars := ["loop.example/g00702/impl.errWire"], fn := fun _ => fun
  | [d, g1] => { results := [.lit (.bool false)], args := [d], vars := [g1] }
  | _ => none }
def FnExactReadEnvWrongFalsely : Prop := fnExactReadEnvRow.holds Tryd.pinned (OpenSpec.ofChange fnExactReadEnvWrong)

/-- 'laws.FnMsgs': WHATEVER THE INPUT: true; the input reads as it did. -/
def fnMsgsSpec : ChangeSpec := { name := "fnMsgs", vars := ["loop.example/g00702/impl.errWire"], fn := fun _ => fun
  | [d, g1] => { results := [.lit (.bool true)], args := [d], vars := [g1] }
  | _ => none }
def fnMsgsRow : OpenClaim := { program := "ytmolcpojdojmlaadoor", sum := "e76fbbf0e7969dd6036f69af6f9804edfdd983962f480bd31cfcbc475f367778", func := "loop.example/g00702/laws.FnMsgs", spec := "fnMsgs", unfollowed := true, recurses := true, named := ["loop.example/g00702/impl.errWire"], ifaces := true, apart := false, laid := [("loop.example/g00702/impl.errWire", laid_loop_example_g00702_impl_errWire)] }
def FnMsgsSaid : Prop := fnMsgsRow.holds Tryd.pinned (OpenSpec.ofChange fnMsgsSpec)

/-- ITS FALSE NEIGHBOUR: 'it returns false'. Refute it at one input. -/
def fnMsgsWrong : ChangeSpec := { name := "fnMsgs", vars := ["loop.example/g00702/impl.errWire"], fn := fun _ => fun
  | [d, g1] => { results := [.lit (.bool false)], args := [d], vars := [g1] }
  | _ => none }
def FnMsgsWrongFalsely : Prop := fnMsgsRow.holds Tryd.pinned (OpenSpec.ofChange fnMsgsWrong)

/-- 'laws.FnEnvs': WHATEVER THE INPUT: true; the input reads as it did. -/
def fnEnvsSpec : ChangeSpec := { name := "fnEnvs", vars := ["loop.example/g00702/impl.errWire"], fn := fun _ => fun
  | [d, g1] => { results := [.lit (.bool true)], args := [d], vars := [g1] }
  | _ => none }
def fnEnvsRow : OpenClaim := { program := "ytmolcpojdojmlaadoor", sum := "e76fbbf0e7969dd6036f69af6f9804edfdd983962f480bd31cfcbc475f367778", func := "loop.example/g00702/laws.FnEnvs", spec := "fnEnvs", unfollowed := true, recurses := true, named := ["loop.example/g00702/impl.errWire"], ifaces := true, apart := false, laid := [("loop.example/g00702/impl.errWire", laid_loop_example_g00702_impl_errWire)] }
def FnEnvsSaid : Prop := fnEnvsRow.holds Tryd.pinned (OpenSpec.ofChange fnEnvsSpec)

/-- ITS FALSE NEIGHBOUR: 'it returns false'. Refute it at one input. -/
def fnEnvsWrong : ChangeSpec := { name := "fnEnvs", vars := ["loop.example/g00702/impl.errWire"], fn := fun _ => fun
  | [d, g1] => { results := [.lit (.bool false)], args := [d], vars := [g1] }
  | _ => none }
def FnEnvsWrongFalsely : Prop := fnEnvsRow.holds Tryd.pinned (OpenSpec.ofChange fnEnvsWrong)

/- THE SECOND FORM. 'bulk': how many values and letters a reading holds, each counted each time it is reached (what is shared counts as often as it is met; a slice's spare places count too). A statement '..UptoSaid' is the law's where the arguments, and the package variables that the reading takes, are together of bulk at most 1048576: NARROWER than '..Said'. Prove '..Said' where nothing that the law and all that it calls make is longer than what came in: it says more and counts as full. Else prove '..UptoSaid'. A law counts once. -/
mutual
def uptoBulk {H : Type} : DataW H → Nat
  | .lit (.string bytes) => bytes.length + 1
  | .lit _ => 1
  | .nil => 1
  | .ptr d => uptoBulk d + 1
  | .slice elems spare => uptoBulkAll elems + uptoBulkAll spare + 1
  | .agg parts => uptoBulkAll parts + 1
  | .iface _ d => uptoBulk d + 1
  | .map entries => uptoBulkEntries entries + 1
  | .held _ => 1
def uptoBulkAll {H : Type} : List (DataW H) → Nat
  | [] => 0
  | d :: r => uptoBulk d + uptoBulkAll r
def uptoBulkEntries {H : Type} : List (Lit × DataW H) → Nat
  | [] => 0
  | x :: r => uptoBulkEntry x + uptoBulkEntries r
def uptoBulkEntry {H : Type} : Lit × DataW H → Nat
  | (.string bytes, d) => bytes.length + uptoBulk d + 1
  | (_, d) => uptoBulk d + 1
 end
def uptoSmall : (H : Type) → List (DataW H) → Bool := fun _ ds => decide (uptoBulkAll ds ≤ 1048576)
def OpenSpec.upto (s : _root_.Go.ChangeSpec) : _root_.Go.OpenSpec := { _root_.Go.OpenSpec.ofChange s with cond := some uptoSmall }

/-- 'laws.FnExactReadEnv', WHERE WHAT IT READS IS OF BULK AT MOST 1048576: true; the input reads as it did. -/
def fnExactReadEnvUptoRow : OpenClaim := { program := "ytmolcpojdojmlaadoor", sum := "e76fbbf0e7969dd6036f69af6f9804edfdd983962f480bd31cfcbc475f367778", func := "loop.example/g00702/laws.FnExactReadEnv", spec := "fnExactReadEnv", unfollowed := true, recurses := true, named := ["loop.example/g00702/impl.errWire"], ifaces := true, apart := false, laid := [("loop.example/g00702/impl.errWire", laid_loop_example_g00702_impl_errWire)], narrowed := true }
def FnExactReadEnvUptoSaid : Prop := fnExactReadEnvUptoRow.holds Tryd.pinned (OpenSpec.upto fnExactReadEnvSpec)

/-- 'laws.FnMsgs', WHERE WHAT IT READS IS OF BULK AT MOST 1048576: true; the input reads as it did. -/
def fnMsgsUptoRow : OpenClaim := { program := "ytmolcpojdojmlaadoor", sum := "e76fbbf0e7969dd6036f69af6f9804edfdd983962f480bd31cfcbc475f367778", func := "loop.example/g00702/laws.FnMsgs", spec := "fnMsgs", unfollowed := true, recurses := true, named := ["loop.example/g00702/impl.errWire"], ifaces := true, apart := false, laid := [("loop.example/g00702/impl.errWire", laid_loop_example_g00702_impl_errWire)], narrowed := true }
def FnMsgsUptoSaid : Prop := fnMsgsUptoRow.holds Tryd.pinned (OpenSpec.upto fnMsgsSpec)

/-- 'laws.FnEnvs', WHERE WHAT IT READS IS OF BULK AT MOST 1048576: true; the input reads as it did. -/
def fnEnvsUptoRow : OpenClaim := { program := "ytmolcpojdojmlaadoor", sum := "e76fbbf0e7969dd6036f69af6f9804edfdd983962f480bd31cfcbc475f367778", func := "loop.example/g00702/laws.FnEnvs", spec := "fnEnvs", unfollowed := true, recurses := true, named := ["loop.example/g00702/impl.errWire"], ifaces := true, apart := false, laid := [("loop.example/g00702/impl.errWire", laid_loop_example_g00702_impl_errWire)], narrowed := true }
def FnEnvsUptoSaid : Prop := fnEnvsUptoRow.holds Tryd.pinned (OpenSpec.upto fnEnvsSpec)

end Rows
end Go.Proofs.YtmolcpojdojmlaaDoor
