/-
  NARROWER THAN 'FOR EVERY INPUT', by the rows' own cells (each row's printed sentence says how): FnDhSame: laid · FnDhThree: laid.
  DERIVED. THE GIVEN ROWS OF THIS SEAT. 2 by the template 'for every input the law returns true; each argument reads behind the call as it read before'; 0 by the template 'total and deterministic' (their statements: YtmladgiiagkgeaaDoorTotals.lean).
  GIVEN WITH THE SEED: the statements are not yours to turn. If you find one false, say at which input.
  Laid BY PROGRAM, IN A SANDBOX (cutbox-rows.mjs): the forced cells as the released guide's own fill.sh prints them over the translation 8da5002f2d448a44… (all of the seat's roots in one cut). By AI agents, Wed Nov 11 2026. No macro, syntax, notation, axiom, sorry.
-/
import Derived.Test.YtmladgiiagkgeaaDoorChecked
import GoSem.Claim
import GoSem.ClaimJoined
import GoSem.ClaimMapViews
import Derived.JoinedTies
import Derived.KernelRfl
namespace Go.Proofs.YtmladgiiagkgeaaDoor
/- THE CELL 'sum', in the pinned program and in every row, IS THE sha256 OF THE DUMP (.gsa) THAT YtmladgiiagkgeaaDoorProg.lean LOADS. Nothing in Lean hashes anything: it is a label: what it is worth is what the hold of that sum in a sandbox is worth. -/
noncomputable def Tryd.pinned : Pinned := { name := "ytmladgiiagkgeaadoor", sum := "8da5002f2d448a44d8682c2e9c31c0f289ff2967c1f6772ef7667962d88ca9dc", checked := Tryd.checked }
namespace Rows
def none {H : Type} : Left H := { results := [], args := [] }

/- WHAT THE LISTED PACKAGE-LEVEL VARIABLES READ AS WHEN THE CALL BEGINS. Each datum BY PROGRAM (the guide's laid-datum.mjs) off the statement by which the dump's own 'gosem.cut.vars' lays the variable. In a bare row this is a premise. The card (YtmladgiiagkgeaaDoorCards.lean) ties it to the program's text. -/
def laid_loop_example_g00702_impl_prime {H : Type} : DataW H := .agg [.lit (.int .u64 18446744073709551597), .lit (.int .u64 18446744073709551615), .lit (.int .u64 18446744073709551615), .lit (.int .u64 9223372036854775807)]

/-- 'laws.FnDhSame': WHATEVER THE INPUT: true; the input reads as it did. -/
def fnDhSameSpec : ChangeSpec := { name := "fnDhSame", vars := ["loop.example/g00702/impl.prime"], fn := fun _ => fun
  | [d, g1] => { results := [.lit (.bool true)], args := [d], vars := [g1] }
  | _ => none }
def fnDhSameRow : OpenClaim := { program := "ytmladgiiagkgeaadoor", sum := "8da5002f2d448a44d8682c2e9c31c0f289ff2967c1f6772ef7667962d88ca9dc", func := "loop.example/g00702/laws.FnDhSame", spec := "fnDhSame", inPlace := ["math/bits.Sub64", "math/bits.Add64"], named := ["loop.example/g00702/impl.prime"], apart := false, laid := [("loop.example/g00702/impl.prime", laid_loop_example_g00702_impl_prime)] }
def FnDhSameSaid : Prop := fnDhSameRow.holds Tryd.pinned (OpenSpec.ofChange fnDhSameSpec)

/-- ITS FALSE NEIGHBOUR: 'it returns false'. Refute it at one input. -/
def fnDhSameWrong : ChangeSpec := { name := "fnDhSame", vars := ["loop.example/g00702/impl.prime"], fn := fun _ => fun
  | [d, g1] => { results := [.lit (.bool false)], args := [d], vars := [g1] }
  | _ => none }
def FnDhSameWrongFalsely : Prop := fnDhSameRow.holds Tryd.pinned (OpenSpec.ofChange fnDhSameWrong)

/-- 'laws.FnDhThree': WHATEVER THE INPUT: true; the input reads as it did. -/
def fnDhThreeSpec : ChangeSpec := { name := "fnDhThree", vars := ["loop.example/g00702/impl.prime"], fn := fun _ => fun
  | [d, g1] => { results := [.lit (.bool true)], args := [d], vars := [g1] }
  | _ => none }
def fnDhThreeRow : OpenClaim := { program := "ytmladgiiagkgeaadoor", sum := "8da5002f2d448a44d8682c2e9c31c0f289ff2967c1f6772ef7667962d88ca9dc", func := "loop.example/g00702/laws.FnDhThree", spec := "fnDhThree", inPlace := ["math/bits.Sub64", "math/bits.Add64"], named := ["loop.example/g00702/impl.prime"], apart := false, laid := [("loop.example/g00702/impl.prime", laid_loop_example_g00702_impl_prime)] }
def FnDhThreeSaid : Prop := fnDhThreeRow.holds Tryd.pinned (OpenSpec.ofChange fnDhThreeSpec)

/-- ITS FALSE NEIGHBOUR: 'it returns false'. Refute it at one input. -/
def fnDhThreeWrong : ChangeSpec := { name := "fnDhThree", vars := ["loop.example/g00702/impl.prime"], fn := fun _ => fun
  | [d, g1] => { results := [.lit (.bool false)], args := [d], vars := [g1] }
  | _ => none }
def FnDhThreeWrongFalsely : Prop := fnDhThreeRow.holds Tryd.pinned (OpenSpec.ofChange fnDhThreeWrong)

/- THE SECOND FORM. 'bulk': how many values and letters a reading holds, each counted each time it is reached (what is shared counts as often as it is met; a slice's spare places count too). A statement '..UptoSaid' is the law's where the arguments, and the package variables that the reading takes, are together of bulk at most 1048576: NARROWER than '..Said'. Prove '..Said' where nothing that the law and all that it calls make is longer than what came in: it says more and counts as full. Else prove '..UptoSaid'. A law counts once. -/
mutual
def uptoBulk {H : Type} : DataW H → Nat
  | .lit (.string bytes) => bytes.length + 1
  | .lit _ => 1
  | .nil => 1
  | .ptr d => uptoBulk d + 1
  | .slice elems spare => uptoBulkAll elems + uptoBulkAll spare + 1
  | .agg parts => uptoBulkAll parts + 1
  | .iface _ d => uptoBulk d + 1
  | .map entries => uptoBulkEntries entries + 1
  | .held _ => 1
def uptoBulkAll {H : Type} : List (DataW H) → Nat
  | [] => 0
  | d :: r => uptoBulk d + uptoBulkAll r
def uptoBulkEntries {H : Type} : List (Lit × DataW H) → Nat
  | [] => 0
  | x :: r => uptoBulkEntry x + uptoBulkEntries r
def uptoBulkEntry {H : Type} : Lit × DataW H → Nat
  | (.string bytes, d) => bytes.length + uptoBulk d + 1
  | (_, d) => uptoBulk d + 1
 end
def uptoSmall : (H : Type) → List (DataW H) → Bool := fun _ ds => decide (uptoBulkAll ds ≤ 1048576)
def OpenSpec.upto (s : _root_.Go.ChangeSpec) : _root_.Go.OpenSpec := { _root_.Go.OpenSpec.ofChange s with cond := some uptoSmall }

/-- 'laws.FnDhSame', WHERE WHAT IT READS IS OF BULK AT MOST 1048576: true; the input reads as it did. -/
def fnDhSameUptoRow : OpenClaim := { program := "ytmladgiiagkgeaadoor", sum := "8da5002f2d448a44d8682c2e9c31c0f289ff2967c1f6772ef7667962d88ca9dc", func := "loop.example/g00702/laws.FnDhSame", spec := "fnDhSame", inPlace := ["math/bits.Sub64", "math/bits.Add64"], named := ["loop.example/g00702/impl.prime"], apart := false, laid := [("loop.example/g00702/impl.prime", laid_loop_example_g00702_impl_prime)], narrowed := true }
def FnDhSameUptoSaid : Prop := fnDhSameUptoRow.holds Tryd.pinned (OpenSpec.upto fnDhSameSpec)

/-- 'laws.FnDhThree', WHERE WHAT IT READS IS OF BULK AT MOST 1048576: true; the input reads as it did. -/
def fnDhThreeUptoRow : OpenClaim := { program := "ytmladgiiagkgeaadoor", sum := "8da5002f2d448a44d8682c2e9c31c0f289ff2967c1f6772ef7667962d88ca9dc", func := "loop.example/g00702/laws.FnDhThree", spec := "fnDhThree", inPlace := ["math/bits.Sub64", "math/bits.Add64"], named := ["loop.example/g00702/impl.prime"], apart := false, laid := [("loop.example/g00702/impl.prime", laid_loop_example_g00702_impl_prime)], narrowed := true }
def FnDhThreeUptoSaid : Prop := fnDhThreeUptoRow.holds Tryd.pinned (OpenSpec.upto fnDhThreeSpec)

end Rows
end Go.Proofs.YtmladgiiagkgeaaDoor
