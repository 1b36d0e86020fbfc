/-
  NARROWER THAN 'FOR EVERY INPUT', by the rows' own cells (each row's printed sentence says how): FnAdd: laid · FnMul: laid · FnInv: laid · FnFieldSub: laid · FnExactFieldOk: laid · FnExactFieldAdd: laid · FnExactFieldSub: laid · FnExactFieldMul: laid · FnExactFieldInv: laid.
  DERIVED. THE GIVEN ROWS OF THIS SEAT. 9 by the template 'for every input the law returns true; each argument reads behind the call as it read before'; 0 by the template 'total and deterministic' (their statements: YtiieoiledeegfaaDoorTotals.lean).
  GIVEN WITH THE SEED: the statements are not yours to turn. If you find one false, say at which input.
  Laid BY PROGRAM, IN A SANDBOX (cutbox-rows.mjs): the forced cells as the released guide's own fill.sh prints them over the translation 18431b8ed59d92e0… (all of the seat's roots in one cut). By AI agents, Wed Nov 11 2026. No macro, syntax, notation, axiom, sorry.
-/
import Derived.Test.YtiieoiledeegfaaDoorChecked
import GoSem.Claim
import GoSem.ClaimJoined
import GoSem.ClaimMapViews
import Derived.JoinedTies
import Derived.KernelRfl
namespace Go.Proofs.YtiieoiledeegfaaDoor
/- THE CELL 'sum', in the pinned program and in every row, IS THE sha256 OF THE DUMP (.gsa) THAT YtiieoiledeegfaaDoorProg.lean LOADS. Nothing in Lean hashes anything: it is a label: what it is worth is what the hold of that sum in a sandbox is worth. -/
noncomputable def Tryd.pinned : Pinned := { name := "ytiieoiledeegfaadoor", sum := "18431b8ed59d92e02947dbe1c63c0d653c74b9ede66c63d7e5d32c7cc681fd5a", checked := Tryd.checked }
namespace Rows
def none {H : Type} : Left H := { results := [], args := [] }

/- WHAT THE LISTED PACKAGE-LEVEL VARIABLES READ AS WHEN THE CALL BEGINS. Each datum BY PROGRAM (the guide's laid-datum.mjs) off the statement by which the dump's own 'gosem.cut.vars' lays the variable. In a bare row this is a premise. The card (YtiieoiledeegfaaDoorCards.lean) ties it to the program's text. -/
def laid_loop_example_g00702_impl_prime {H : Type} : DataW H := .agg [.lit (.int .u64 18446744073709551597), .lit (.int .u64 18446744073709551615), .lit (.int .u64 18446744073709551615), .lit (.int .u64 9223372036854775807)]

/-- 'laws.FnAdd': WHATEVER THE INPUT: true; the input reads as it did. -/
def fnAddSpec : ChangeSpec := { name := "fnAdd", vars := ["loop.example/g00702/impl.prime"], fn := fun _ => fun
  | [d1, d2, g1] => { results := [.lit (.bool true)], args := [d1, d2], vars := [g1] }
  | _ => none }
def fnAddRow : OpenClaim := { program := "ytiieoiledeegfaadoor", sum := "18431b8ed59d92e02947dbe1c63c0d653c74b9ede66c63d7e5d32c7cc681fd5a", func := "loop.example/g00702/laws.FnAdd", spec := "fnAdd", inPlace := ["math/bits.Sub64", "math/bits.Add64"], unfollowed := true, recurses := true, named := ["loop.example/g00702/impl.prime"], apart := false, laid := [("loop.example/g00702/impl.prime", laid_loop_example_g00702_impl_prime)] }
def FnAddSaid : Prop := fnAddRow.holds Tryd.pinned (OpenSpec.ofChange fnAddSpec)

/-- ITS FALSE NEIGHBOUR: 'it returns false'. Refute it at one input. -/
def fnAddWrong : ChangeSpec := { name := "fnAdd", vars := ["loop.example/g00702/impl.prime"], fn := fun _ => fun
  | [d1, d2, g1] => { results := [.lit (.bool false)], args := [d1, d2], vars := [g1] }
  | _ => none }
def FnAddWrongFalsely : Prop := fnAddRow.holds Tryd.pinned (OpenSpec.ofChange fnAddWrong)

/-- 'laws.FnMul': WHATEVER THE INPUT: true; the input reads as it did. -/
def fnMulSpec : ChangeSpec := { name := "fnMul", vars := ["loop.example/g00702/impl.prime"], fn := fun _ => fun
  | [d1, d2, g1] => { results := [.lit (.bool true)], args := [d1, d2], vars := [g1] }
  | _ => none }
def fnMulRow : OpenClaim := { program := "ytiieoiledeegfaadoor", sum := "18431b8ed59d92e02947dbe1c63c0d653c74b9ede66c63d7e5d32c7cc681fd5a", func := "loop.example/g00702/laws.FnMul", spec := "fnMul", inPlace := ["math/bits.Sub64", "math/bits.Add64"], unfollowed := true, recurses := true, named := ["loop.example/g00702/impl.prime"], apart := false, laid := [("loop.example/g00702/impl.prime", laid_loop_example_g00702_impl_prime)] }
def FnMulSaid : Prop := fnMulRow.holds Tryd.pinned (OpenSpec.ofChange fnMulSpec)

/-- ITS FALSE NEIGHBOUR: 'it returns false'. Refute it at one input. -/
def fnMulWrong : ChangeSpec := { name := "fnMul", vars := ["loop.example/g00702/impl.prime"], fn := fun _ => fun
  | [d1, d2, g1] => { results := [.lit (.bool false)], args := [d1, d2], vars := [g1] }
  | _ => none }
def FnMulWrongFalsely : Prop := fnMulRow.holds Tryd.pinned (OpenSpec.ofChange fnMulWrong)

/-- 'laws.FnInv': WHATEVER THE INPUT: true; the input reads as it did. -/
def fnInvSpec : ChangeSpec := { name := "fnInv", vars := ["loop.example/g00702/impl.prime"], fn := fun _ => fun
  | [d, g1] => { results := [.lit (.bool true)], args := [d], vars := [g1] }
  | _ => none }
def fnInvRow : OpenClaim := { program := "ytiieoiledeegfaadoor", sum := "18431b8ed59d92e02947dbe1c63c0d653c74b9ede66c63d7e5d32c7cc681fd5a", func := "loop.example/g00702/laws.FnInv", spec := "fnInv", inPlace := ["math/bits.Sub64", "math/bits.Add64"], unfollowed := true, recurses := true, named := ["loop.example/g00702/impl.prime"], apart := false, laid := [("loop.example/g00702/impl.prime", laid_loop_example_g00702_impl_prime)] }
def FnInvSaid : Prop := fnInvRow.holds Tryd.pinned (OpenSpec.ofChange fnInvSpec)

/-- ITS FALSE NEIGHBOUR: 'it returns false'. Refute it at one input. -/
def fnInvWrong : ChangeSpec := { name := "fnInv", vars := ["loop.example/g00702/impl.prime"], fn := fun _ => fun
  | [d, g1] => { results := [.lit (.bool false)], args := [d], vars := [g1] }
  | _ => none }
def FnInvWrongFalsely : Prop := fnInvRow.holds Tryd.pinned (OpenSpec.ofChange fnInvWrong)

/-- 'laws.FnFieldSub': WHATEVER THE INPUT: true; the input reads as it did. -/
def fnFieldSubSpec : ChangeSpec := { name := "fnFieldSub", vars := ["loop.example/g00702/impl.prime"], fn := fun _ => fun
  | [d, g1] => { results := [.lit (.bool true)], args := [d], vars := [g1] }
  | _ => none }
def fnFieldSubRow : OpenClaim := { program := "ytiieoiledeegfaadoor", sum := "18431b8ed59d92e02947dbe1c63c0d653c74b9ede66c63d7e5d32c7cc681fd5a", func := "loop.example/g00702/laws.FnFieldSub", spec := "fnFieldSub", inPlace := ["math/bits.Sub64", "math/bits.Add64"], unfollowed := true, recurses := true, named := ["loop.example/g00702/impl.prime"], apart := false, laid := [("loop.example/g00702/impl.prime", laid_loop_example_g00702_impl_prime)] }
def FnFieldSubSaid : Prop := fnFieldSubRow.holds Tryd.pinned (OpenSpec.ofChange fnFieldSubSpec)

/-- ITS FALSE NEIGHBOUR: 'it returns false'. Refute it at one input. -/
def fnFieldSubWrong : ChangeSpec := { name := "fnFieldSub", vars := ["loop.example/g00702/impl.prime"], fn := fun _ => fun
  | [d, g1] => { results := [.lit (.bool false)], args := [d], vars := [g1] }
  | _ => none }
def FnFieldSubWrongFalsely : Prop := fnFieldSubRow.holds Tryd.pinned (OpenSpec.ofChange fnFieldSubWrong)

/-- 'laws.FnExactFieldOk': WHATEVER THE INPUT: true; the input reads as it did. -/
def fnExactFieldOkSpec : ChangeSpec := { name := "fnExactFieldOk", vars := ["loop.example/g00702/impl.prime"], fn := fun _ => fun
  | [d, g1] => { results := [.lit (.bool true)], args := [d], vars := [g1] }
  | _ => none }
def fnExactFieldOkRow : OpenClaim := { program := "ytiieoiledeegfaadoor", sum := "18431b8ed59d92e02947dbe1c63c0d653c74b9ede66c63d7e5d32c7cc681fd5a", func := "loop.example/g00702/laws.FnExactFieldOk", spec := "fnExactFieldOk", inPlace := ["math/bits.Sub64"], named := ["loop.example/g00702/impl.prime"], apart := false, laid := [("loop.example/g00702/impl.prime", laid_loop_example_g00702_impl_prime)] }
def FnExactFieldOkSaid : Prop := fnExactFieldOkRow.holds Tryd.pinned (OpenSpec.ofChange fnExactFieldOkSpec)

/-- ITS FALSE NEIGHBOUR: 'it returns false'. Refute it at one input. -/
def fnExactFieldOkWrong : ChangeSpec := { name := "fnExactFieldOk", vars := ["loop.example/g00702/impl.prime"], fn := fun _ => fun
  | [d, g1] => { results := [.lit (.bool false)], args := [d], vars := [g1] }
  | _ => none }
def FnExactFieldOkWrongFalsely : Prop := fnExactFieldOkRow.holds Tryd.pinned (OpenSpec.ofChange fnExactFieldOkWrong)

/-- 'laws.FnExactFieldAdd': WHATEVER THE INPUT: true; the input reads as it did. -/
def fnExactFieldAddSpec : ChangeSpec := { name := "fnExactFieldAdd", vars := ["loop.example/g00702/impl.prime"], fn := fun _ => fun
  | [d1, d2, g1] => { results := [.lit (.bool true)], args := [d1, d2], vars := [g1] }
  | _ => none }
def fnExactFieldAddRow : OpenClaim := { program := "ytiieoiledeegfaadoor", sum := "18431b8ed59d92e02947dbe1c63c0d653c74b9ede66c63d7e5d32c7cc681fd5a", func := "loop.example/g00702/laws.FnExactFieldAdd", spec := "fnExactFieldAdd", inPlace := ["math/bits.Sub64", "math/bits.Add64"], unfollowed := true, recurses := true, named := ["loop.example/g00702/impl.prime"], apart := false, laid := [("loop.example/g00702/impl.prime", laid_loop_example_g00702_impl_prime)] }
def FnExactFieldAddSaid : Prop := fnExactFieldAddRow.holds Tryd.pinned (OpenSpec.ofChange fnExactFieldAddSpec)

/-- ITS FALSE NEIGHBOUR: 'it returns false'. Refute it at one input. -/
def fnExactFieldAddWrong : ChangeSpec := { name := "fnExactFieldAdd", vars := ["loop.example/g00702/impl.prime"], fn := fun _ => fun
  | [d1, d2, g1] => { results := [.lit (.bool false)], args := [d1, d2], vars := [g1] }
  | _ => none }
def FnExactFieldAddWrongFalsely : Prop := fnExactFieldAddRow.holds Tryd.pinned (OpenSpec.ofChange fnExactFieldAddWrong)

/-- 'laws.FnExactFieldSub': WHATEVER THE INPUT: true; the input reads as it did. -/
def fnExactFieldSubSpec : ChangeSpec := { name := "fnExactFieldSub", vars := ["loop.example/g00702/impl.prime"], fn := fun _ => fun
  | [d1, d2, g1] => { results := [.lit (.bool true)], args := [d1, d2], vars := [g1] }
  | _ => none }
def fnExactFieldSubRow : OpenClaim := { program := "ytiieoiledeegfaadoor", sum := "18431b8ed59d92e02947dbe1c63c0d653c74b9ede66c63d7e5d32c7cc681fd5a", func := "loop.example/g00702/laws.FnExactFieldSub", spec := "fnExactFieldSub", inPlace := ["math/bits.Sub64", "math/bits.Add64"], unfollowed := true, recurses := true, named := ["loop.example/g00702/impl.prime"], apart := false, laid := [("loop.example/g00702/impl.prime", laid_loop_example_g00702_impl_prime)] }
def FnExactFieldSubSaid : Prop := fnExactFieldSubRow.holds Tryd.pinned (OpenSpec.ofChange fnExactFieldSubSpec)

/-- ITS FALSE NEIGHBOUR: 'it returns false'. Refute it at one input. -/
def fnExactFieldSubWrong : ChangeSpec := { name := "fnExactFieldSub", vars := ["loop.example/g00702/impl.prime"], fn := fun _ => fun
  | [d1, d2, g1] => { results := [.lit (.bool false)], args := [d1, d2], vars := [g1] }
  | _ => none }
def FnExactFieldSubWrongFalsely : Prop := fnExactFieldSubRow.holds Tryd.pinned (OpenSpec.ofChange fnExactFieldSubWrong)

/-- 'laws.FnExactFieldMul': WHATEVER THE INPUT: true; the input reads as it did. -/
def fnExactFieldMulSpec : ChangeSpec := { name := "fnExactFieldMul", vars := ["loop.example/g00702/impl.prime"], fn := fun _ => fun
  | [d1, d2, g1] => { results := [.lit (.bool true)], args := [d1, d2], vars := [g1] }
  | _ => none }
def fnExactFieldMulRow : OpenClaim := { program := "ytiieoiledeegfaadoor", sum := "18431b8ed59d92e02947dbe1c63c0d653c74b9ede66c63d7e5d32c7cc681fd5a", func := "loop.example/g00702/laws.FnExactFieldMul", spec := "fnExactFieldMul", inPlace := ["math/bits.Sub64", "math/bits.Add64"], unfollowed := true, recurses := true, named := ["loop.example/g00702/impl.prime"], apart := false, laid := [("loop.example/g00702/impl.prime", laid_loop_example_g00702_impl_prime)] }
def FnExactFieldMulSaid : Prop := fnExactFieldMulRow.holds Tryd.pinned (OpenSpec.ofChange fnExactFieldMulSpec)

/-- ITS FALSE NEIGHBOUR: 'it returns false'. Refute it at one input. -/
def fnExactFieldMulWrong : ChangeSpec := { name := "fnExactFieldMul", vars := ["loop.example/g00702/impl.prime"], fn := fun _ => fun
  | [d1, d2, g1] => { results := [.lit (.bool false)], args := [d1, d2], vars := [g1] }
  | _ => none }
def FnExactFieldMulWrongFalsely : Prop := fnExactFieldMulRow.holds Tryd.pinned (OpenSpec.ofChange fnExactFieldMulWrong)

/-- 'laws.FnExactFieldInv': WHATEVER THE INPUT: true; the input reads as it did. -/
def fnExactFieldInvSpec : ChangeSpec := { name := "fnExactFieldInv", vars := ["loop.example/g00702/impl.prime"], fn := fun _ => fun
  | [d, g1] => { results := [.lit (.bool true)], args := [d], vars := [g1] }
  | _ => none }
def fnExactFieldInvRow : OpenClaim := { program := "ytiieoiledeegfaadoor", sum := "18431b8ed59d92e02947dbe1c63c0d653c74b9ede66c63d7e5d32c7cc681fd5a", func := "loop.example/g00702/laws.FnExactFieldInv", spec := "fnExactFieldInv", inPlace := ["math/bits.Sub64", "math/bits.Add64"], named := ["loop.example/g00702/impl.prime"], apart := false, laid := [("loop.example/g00702/impl.prime", laid_loop_example_g00702_impl_prime)] }
def FnExactFieldInvSaid : Prop := fnExactFieldInvRow.holds Tryd.pinned (OpenSpec.ofChange fnExactFieldInvSpec)

/-- ITS FALSE NEIGHBOUR: 'it returns false'. Refute it at one input. -/
def fnExactFieldInvWrong : ChangeSpec := { name := "fnExactFieldInv", vars := ["loop.example/g00702/impl.prime"], fn := fun _ => fun
  | [d, g1] => { results := [.lit (.bool false)], args := [d], vars := [g1] }
  | _ => none }
def FnExactFieldInvWrongFalsely : Prop := fnExactFieldInvRow.holds Tryd.pinned (OpenSpec.ofChange fnExactFieldInvWrong)

/- THE SECOND FORM. 'bulk': how many values and letters a reading holds, each counted each time it is reached (what is shared counts as often as it is met; a slice's spare places count too). A statement '..UptoSaid' is the law's where the arguments, and the package variables that the reading takes, are together of bulk at most 1048576: NARROWER than '..Said'. Prove '..Said' where nothing that the law and all that it calls make is longer than what came in: it says more and counts as full. Else prove '..UptoSaid'. A law counts once. -/
mutual
def uptoBulk {H : Type} : DataW H → Nat
  | .lit (.string bytes) => bytes.length + 1
  | .lit _ => 1
  | .nil => 1
  | .ptr d => uptoBulk d + 1
  | .slice elems spare => uptoBulkAll elems + uptoBulkAll spare + 1
  | .agg parts => uptoBulkAll parts + 1
  | .iface _ d => uptoBulk d + 1
  | .map entries => uptoBulkEntries entries + 1
  | .held _ => 1
def uptoBulkAll {H : Type} : List (DataW H) → Nat
  | [] => 0
  | d :: r => uptoBulk d + uptoBulkAll r
def uptoBulkEntries {H : Type} : List (Lit × DataW H) → Nat
  | [] => 0
  | x :: r => uptoBulkEntry x + uptoBulkEntries r
def uptoBulkEntry {H : Type} : Lit × DataW H → Nat
  | (.string bytes, d) => bytes.length + uptoBulk d + 1
  | (_, d) => uptoBulk d + 1
 end
def uptoSmall : (H : Type) → List (DataW H) → Bool := fun _ ds => decide (uptoBulkAll ds ≤ 1048576)
def OpenSpec.upto (s : _root_.Go.ChangeSpec) : _root_.Go.OpenSpec := { _root_.Go.OpenSpec.ofChange s with cond := some uptoSmall }

/-- 'laws.FnAdd', WHERE WHAT IT READS IS OF BULK AT MOST 1048576: true; the input reads as it did. -/
def fnAddUptoRow : OpenClaim := { program := "ytiieoiledeegfaadoor", sum := "18431b8ed59d92e02947dbe1c63c0d653c74b9ede66c63d7e5d32c7cc681fd5a", func := "loop.example/g00702/laws.FnAdd", spec := "fnAdd", inPlace := ["math/bits.Sub64", "math/bits.Add64"], unfollowed := true, recurses := true, named := ["loop.example/g00702/impl.prime"], apart := false, laid := [("loop.example/g00702/impl.prime", laid_loop_example_g00702_impl_prime)], narrowed := true }
def FnAddUptoSaid : Prop := fnAddUptoRow.holds Tryd.pinned (OpenSpec.upto fnAddSpec)

/-- 'laws.FnMul', WHERE WHAT IT READS IS OF BULK AT MOST 1048576: true; the input reads as it did. -/
def fnMulUptoRow : OpenClaim := { program := "ytiieoiledeegfaadoor", sum := "18431b8ed59d92e02947dbe1c63c0d653c74b9ede66c63d7e5d32c7cc681fd5a", func := "loop.example/g00702/laws.FnMul", spec := "fnMul", inPlace := ["math/bits.Sub64", "math/bits.Add64"], unfollowed := true, recurses := true, named := ["loop.example/g00702/impl.prime"], apart := false, laid := [("loop.example/g00702/impl.prime", laid_loop_example_g00702_impl_prime)], narrowed := true }
def FnMulUptoSaid : Prop := fnMulUptoRow.holds Tryd.pinned (OpenSpec.upto fnMulSpec)

/-- 'laws.FnInv', WHERE WHAT IT READS IS OF BULK AT MOST 1048576: true; the input reads as it did. -/
def fnInvUptoRow : OpenClaim := { program := "ytiieoiledeegfaadoor", sum := "18431b8ed59d92e02947dbe1c63c0d653c74b9ede66c63d7e5d32c7cc681fd5a", func := "loop.example/g00702/laws.FnInv", spec := "fnInv", inPlace := ["math/bits.Sub64", "math/bits.Add64"], unfollowed := true, recurses := true, named := ["loop.example/g00702/impl.prime"], apart := false, laid := [("loop.example/g00702/impl.prime", laid_loop_example_g00702_impl_prime)], narrowed := true }
def FnInvUptoSaid : Prop := fnInvUptoRow.holds Tryd.pinned (OpenSpec.upto fnInvSpec)

/-- 'laws.FnFieldSub', WHERE WHAT IT READS IS OF BULK AT MOST 1048576: true; the input reads as it did. -/
def fnFieldSubUptoRow : OpenClaim := { program := "ytiieoiledeegfaadoor", sum := "18431b8ed59d92e02947dbe1c63c0d653c74b9ede66c63d7e5d32c7cc681fd5a", func := "loop.example/g00702/laws.FnFieldSub", spec := "fnFieldSub", inPlace := ["math/bits.Sub64", "math/bits.Add64"], unfollowed := true, recurses := true, named := ["loop.example/g00702/impl.prime"], apart := false, laid := [("loop.example/g00702/impl.prime", laid_loop_example_g00702_impl_prime)], narrowed := true }
def FnFieldSubUptoSaid : Prop := fnFieldSubUptoRow.holds Tryd.pinned (OpenSpec.upto fnFieldSubSpec)

/-- 'laws.FnExactFieldOk', WHERE WHAT IT READS IS OF BULK AT MOST 1048576: true; the input reads as it did. -/
def fnExactFieldOkUptoRow : OpenClaim := { program := "ytiieoiledeegfaadoor", sum := "18431b8ed59d92e02947dbe1c63c0d653c74b9ede66c63d7e5d32c7cc681fd5a", func := "loop.example/g00702/laws.FnExactFieldOk", spec := "fnExactFieldOk", inPlace := ["math/bits.Sub64"], named := ["loop.example/g00702/impl.prime"], apart := false, laid := [("loop.example/g00702/impl.prime", laid_loop_example_g00702_impl_prime)], narrowed := true }
def FnExactFieldOkUptoSaid : Prop := fnExactFieldOkUptoRow.holds Tryd.pinned (OpenSpec.upto fnExactFieldOkSpec)

/-- 'laws.FnExactFieldAdd', WHERE WHAT IT READS IS OF BULK AT MOST 1048576: true; the input reads as it did. -/
def fnExactFieldAddUptoRow : OpenClaim := { program := "ytiieoiledeegfaadoor", sum := "18431b8ed59d92e02947dbe1c63c0d653c74b9ede66c63d7e5d32c7cc681fd5a", func := "loop.example/g00702/laws.FnExactFieldAdd", spec := "fnExactFieldAdd", inPlace := ["math/bits.Sub64", "math/bits.Add64"], unfollowed := true, recurses := true, named := ["loop.example/g00702/impl.prime"], apart := false, laid := [("loop.example/g00702/impl.prime", laid_loop_example_g00702_impl_prime)], narrowed := true }
def FnExactFieldAddUptoSaid : Prop := fnExactFieldAddUptoRow.holds Tryd.pinned (OpenSpec.upto fnExactFieldAddSpec)

/-- 'laws.FnExactFieldSub', WHERE WHAT IT READS IS OF BULK AT MOST 1048576: true; the input reads as it did. -/
def fnExactFieldSubUptoRow : OpenClaim := { program := "ytiieoiledeegfaadoor", sum := "18431b8ed59d92e02947dbe1c63c0d653c74b9ede66c63d7e5d32c7cc681fd5a", func := "loop.example/g00702/laws.FnExactFieldSub", spec := "fnExactFieldSub", inPlace := ["math/bits.Sub64", "math/bits.Add64"], unfollowed := true, recurses := true, named := ["loop.example/g00702/impl.prime"], apart := false, laid := [("loop.example/g00702/impl.prime", laid_loop_example_g00702_impl_prime)], narrowed := true }
def FnExactFieldSubUptoSaid : Prop := fnExactFieldSubUptoRow.holds Tryd.pinned (OpenSpec.upto fnExactFieldSubSpec)

/-- 'laws.FnExactFieldMul', WHERE WHAT IT READS IS OF BULK AT MOST 1048576: true; the input reads as it did. -/
def fnExactFieldMulUptoRow : OpenClaim := { program := "ytiieoiledeegfaadoor", sum := "18431b8ed59d92e02947dbe1c63c0d653c74b9ede66c63d7e5d32c7cc681fd5a", func := "loop.example/g00702/laws.FnExactFieldMul", spec := "fnExactFieldMul", inPlace := ["math/bits.Sub64", "math/bits.Add64"], unfollowed := true, recurses := true, named := ["loop.example/g00702/impl.prime"], apart := false, laid := [("loop.example/g00702/impl.prime", laid_loop_example_g00702_impl_prime)], narrowed := true }
def FnExactFieldMulUptoSaid : Prop := fnExactFieldMulUptoRow.holds Tryd.pinned (OpenSpec.upto fnExactFieldMulSpec)

/-- 'laws.FnExactFieldInv', WHERE WHAT IT READS IS OF BULK AT MOST 1048576: true; the input reads as it did. -/
def fnExactFieldInvUptoRow : OpenClaim := { program := "ytiieoiledeegfaadoor", sum := "18431b8ed59d92e02947dbe1c63c0d653c74b9ede66c63d7e5d32c7cc681fd5a", func := "loop.example/g00702/laws.FnExactFieldInv", spec := "fnExactFieldInv", inPlace := ["math/bits.Sub64", "math/bits.Add64"], named := ["loop.example/g00702/impl.prime"], apart := false, laid := [("loop.example/g00702/impl.prime", laid_loop_example_g00702_impl_prime)], narrowed := true }
def FnExactFieldInvUptoSaid : Prop := fnExactFieldInvUptoRow.holds Tryd.pinned (OpenSpec.upto fnExactFieldInvSpec)

end Rows
end Go.Proofs.YtiieoiledeegfaaDoor
