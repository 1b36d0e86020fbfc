/-
  No cell of these rows narrows 'for every input' (looked for: loops, veiled, ifaces, maps, wideKeys, modest, calm, conditions, laid).
  DERIVED. THE GIVEN ROWS OF THIS SEAT. 9 by the template 'for every input the law returns true; each argument reads behind the call as it read before'; 0 by the template 'total and deterministic' (their statements: YtobjbnefikdlnaaTotals.lean).
  GIVEN WITH THE SEED: the statements are not yours to turn. If you find one false, say at which input.
  Laid BY PROGRAM, IN A SANDBOX (cutbox-rows.mjs): the forced cells as the released guide's own fill.sh prints them over the translation ada2d8715d3dce31… (all of the seat's roots in one cut). By AI agents, Wed Nov 11 2026. No macro, syntax, notation, axiom, sorry.
-/
import Derived.Test.YtobjbnefikdlnaaChecked
import GoSem.Claim
import GoSem.ClaimJoined
import GoSem.ClaimMapViews
import Derived.JoinedTies
import Derived.KernelRfl
namespace Go.Proofs.Ytobjbnefikdlnaa
/- THE CELL 'sum', in the pinned program and in every row, IS THE sha256 OF THE DUMP (.gsa) THAT YtobjbnefikdlnaaProg.lean LOADS. Nothing in Lean hashes anything: it is a label: what it is worth is what the hold of that sum in a sandbox is worth. -/
noncomputable def Try.pinned : Pinned := { name := "ytobjbnefikdlnaa", sum := "ada2d8715d3dce31ca9d7dbd7fe146f7a0f7458f2ef7187640dbd04f0fcb670b", checked := Try.checked }
namespace Rows
def none {H : Type} : Left H := { results := [], args := [] }

/-- 'laws.FnHexes': WHATEVER THE INPUT: true; the input reads as it did. -/
def fnHexesSpec : ChangeSpec := { name := "fnHexes", fn := fun _ => fun
  | [d] => { results := [.lit (.bool true)], args := [d] }
  | _ => none }
def fnHexesRow : OpenClaim := { program := "ytobjbnefikdlnaa", sum := "ada2d8715d3dce31ca9d7dbd7fe146f7a0f7458f2ef7187640dbd04f0fcb670b", func := "loop.example/g00702/laws.FnHexes", spec := "fnHexes", apart := false }
def FnHexesSaid : Prop := fnHexesRow.holds Try.pinned (OpenSpec.ofChange fnHexesSpec)

/-- ITS FALSE NEIGHBOUR: 'it returns false'. Refute it at one input. -/
def fnHexesWrong : ChangeSpec := { name := "fnHexes", fn := fun _ => fun
  | [d] => { results := [.lit (.bool false)], args := [d] }
  | _ => none }
def FnHexesWrongFalsely : Prop := fnHexesRow.holds Try.pinned (OpenSpec.ofChange fnHexesWrong)

/-- 'laws.FnXor': WHATEVER THE INPUT: true; the input reads as it did. -/
def fnXorSpec : ChangeSpec := { name := "fnXor", fn := fun _ => fun
  | [d] => { results := [.lit (.bool true)], args := [d] }
  | _ => none }
def fnXorRow : OpenClaim := { program := "ytobjbnefikdlnaa", sum := "ada2d8715d3dce31ca9d7dbd7fe146f7a0f7458f2ef7187640dbd04f0fcb670b", func := "loop.example/g00702/laws.FnXor", spec := "fnXor", apart := false }
def FnXorSaid : Prop := fnXorRow.holds Try.pinned (OpenSpec.ofChange fnXorSpec)

/-- ITS FALSE NEIGHBOUR: 'it returns false'. Refute it at one input. -/
def fnXorWrong : ChangeSpec := { name := "fnXor", fn := fun _ => fun
  | [d] => { results := [.lit (.bool false)], args := [d] }
  | _ => none }
def FnXorWrongFalsely : Prop := fnXorRow.holds Try.pinned (OpenSpec.ofChange fnXorWrong)

/-- 'laws.FnNums': WHATEVER THE INPUT: true; the input reads as it did. -/
def fnNumsSpec : ChangeSpec := { name := "fnNums", fn := fun _ => fun
  | [d] => { results := [.lit (.bool true)], args := [d] }
  | _ => none }
def fnNumsRow : OpenClaim := { program := "ytobjbnefikdlnaa", sum := "ada2d8715d3dce31ca9d7dbd7fe146f7a0f7458f2ef7187640dbd04f0fcb670b", func := "loop.example/g00702/laws.FnNums", spec := "fnNums", apart := false }
def FnNumsSaid : Prop := fnNumsRow.holds Try.pinned (OpenSpec.ofChange fnNumsSpec)

/-- ITS FALSE NEIGHBOUR: 'it returns false'. Refute it at one input. -/
def fnNumsWrong : ChangeSpec := { name := "fnNums", fn := fun _ => fun
  | [d] => { results := [.lit (.bool false)], args := [d] }
  | _ => none }
def FnNumsWrongFalsely : Prop := fnNumsRow.holds Try.pinned (OpenSpec.ofChange fnNumsWrong)

/-- 'laws.FnNumOrder': WHATEVER THE INPUT: true; the input reads as it did. -/
def fnNumOrderSpec : ChangeSpec := { name := "fnNumOrder", fn := fun _ => fun
  | [d1, d2] => { results := [.lit (.bool true)], args := [d1, d2] }
  | _ => none }
def fnNumOrderRow : OpenClaim := { program := "ytobjbnefikdlnaa", sum := "ada2d8715d3dce31ca9d7dbd7fe146f7a0f7458f2ef7187640dbd04f0fcb670b", func := "loop.example/g00702/laws.FnNumOrder", spec := "fnNumOrder", apart := false }
def FnNumOrderSaid : Prop := fnNumOrderRow.holds Try.pinned (OpenSpec.ofChange fnNumOrderSpec)

/-- ITS FALSE NEIGHBOUR: 'it returns false'. Refute it at one input. -/
def fnNumOrderWrong : ChangeSpec := { name := "fnNumOrder", fn := fun _ => fun
  | [d1, d2] => { results := [.lit (.bool false)], args := [d1, d2] }
  | _ => none }
def FnNumOrderWrongFalsely : Prop := fnNumOrderRow.holds Try.pinned (OpenSpec.ofChange fnNumOrderWrong)

/-- 'laws.FnExactHexOf': WHATEVER THE INPUT: true; the input reads as it did. -/
def fnExactHexOfSpec : ChangeSpec := { name := "fnExactHexOf", fn := fun _ => fun
  | [d] => { results := [.lit (.bool true)], args := [d] }
  | _ => none }
def fnExactHexOfRow : OpenClaim := { program := "ytobjbnefikdlnaa", sum := "ada2d8715d3dce31ca9d7dbd7fe146f7a0f7458f2ef7187640dbd04f0fcb670b", func := "loop.example/g00702/laws.FnExactHexOf", spec := "fnExactHexOf", apart := false }
def FnExactHexOfSaid : Prop := fnExactHexOfRow.holds Try.pinned (OpenSpec.ofChange fnExactHexOfSpec)

/-- ITS FALSE NEIGHBOUR: 'it returns false'. Refute it at one input. -/
def fnExactHexOfWrong : ChangeSpec := { name := "fnExactHexOf", fn := fun _ => fun
  | [d] => { results := [.lit (.bool false)], args := [d] }
  | _ => none }
def FnExactHexOfWrongFalsely : Prop := fnExactHexOfRow.holds Try.pinned (OpenSpec.ofChange fnExactHexOfWrong)

/-- 'laws.FnExactReadHex': WHATEVER THE INPUT: true; the input reads as it did. -/
def fnExactReadHexSpec : ChangeSpec := { name := "fnExactReadHex", fn := fun _ => fun
  | [d] => { results := [.lit (.bool true)], args := [d] }
  | _ => none }
def fnExactReadHexRow : OpenClaim := { program := "ytobjbnefikdlnaa", sum := "ada2d8715d3dce31ca9d7dbd7fe146f7a0f7458f2ef7187640dbd04f0fcb670b", func := "loop.example/g00702/laws.FnExactReadHex", spec := "fnExactReadHex", apart := false }
def FnExactReadHexSaid : Prop := fnExactReadHexRow.holds Try.pinned (OpenSpec.ofChange fnExactReadHexSpec)

/-- ITS FALSE NEIGHBOUR: 'it returns false'. Refute it at one input. -/
def fnExactReadHexWrong : ChangeSpec := { name := "fnExactReadHex", fn := fun _ => fun
  | [d] => { results := [.lit (.bool false)], args := [d] }
  | _ => none }
def FnExactReadHexWrongFalsely : Prop := fnExactReadHexRow.holds Try.pinned (OpenSpec.ofChange fnExactReadHexWrong)

/-- 'laws.FnExactXorOf': WHATEVER THE INPUT: true; the input reads as it did. -/
def fnExactXorOfSpec : ChangeSpec := { name := "fnExactXorOf", fn := fun _ => fun
  | [d1, d2] => { results := [.lit (.bool true)], args := [d1, d2] }
  | _ => none }
def fnExactXorOfRow : OpenClaim := { program := "ytobjbnefikdlnaa", sum := "ada2d8715d3dce31ca9d7dbd7fe146f7a0f7458f2ef7187640dbd04f0fcb670b", func := "loop.example/g00702/laws.FnExactXorOf", spec := "fnExactXorOf", apart := false }
def FnExactXorOfSaid : Prop := fnExactXorOfRow.holds Try.pinned (OpenSpec.ofChange fnExactXorOfSpec)

/-- ITS FALSE NEIGHBOUR: 'it returns false'. Refute it at one input. -/
def fnExactXorOfWrong : ChangeSpec := { name := "fnExactXorOf", fn := fun _ => fun
  | [d1, d2] => { results := [.lit (.bool false)], args := [d1, d2] }
  | _ => none }
def FnExactXorOfWrongFalsely : Prop := fnExactXorOfRow.holds Try.pinned (OpenSpec.ofChange fnExactXorOfWrong)

/-- 'laws.FnExactNumBytes': WHATEVER THE INPUT: true; the input reads as it did. -/
def fnExactNumBytesSpec : ChangeSpec := { name := "fnExactNumBytes", fn := fun _ => fun
  | [d1, d2] => { results := [.lit (.bool true)], args := [d1, d2] }
  | _ => none }
def fnExactNumBytesRow : OpenClaim := { program := "ytobjbnefikdlnaa", sum := "ada2d8715d3dce31ca9d7dbd7fe146f7a0f7458f2ef7187640dbd04f0fcb670b", func := "loop.example/g00702/laws.FnExactNumBytes", spec := "fnExactNumBytes", apart := false }
def FnExactNumBytesSaid : Prop := fnExactNumBytesRow.holds Try.pinned (OpenSpec.ofChange fnExactNumBytesSpec)

/-- ITS FALSE NEIGHBOUR: 'it returns false'. Refute it at one input. -/
def fnExactNumBytesWrong : ChangeSpec := { name := "fnExactNumBytes", fn := fun _ => fun
  | [d1, d2] => { results := [.lit (.bool false)], args := [d1, d2] }
  | _ => none }
def FnExactNumBytesWrongFalsely : Prop := fnExactNumBytesRow.holds Try.pinned (OpenSpec.ofChange fnExactNumBytesWrong)

/-- 'laws.FnExactBytesNum': WHATEVER THE INPUT: true; the input reads as it did. -/
def fnExactBytesNumSpec : ChangeSpec := { name := "fnExactBytesNum", fn := fun _ => fun
  | [d] => { results := [.lit (.bool true)], args := [d] }
  | _ => none }
def fnExactBytesNumRow : OpenClaim := { program := "ytobjbnefikdlnaa", sum := "ada2d8715d3dce31ca9d7dbd7fe146f7a0f7458f2ef7187640dbd04f0fcb670b", func := "loop.example/g00702/laws.FnExactBytesNum", spec := "fnExactBytesNum", apart := false }
def FnExactBytesNumSaid : Prop := fnExactBytesNumRow.holds Try.pinned (OpenSpec.ofChange fnExactBytesNumSpec)

/-- ITS FALSE NEIGHBOUR: 'it returns false'. Refute it at one input. -/
def fnExactBytesNumWrong : ChangeSpec := { name := "fnExactBytesNum", fn := fun _ => fun
  | [d] => { results := [.lit (.bool false)], args := [d] }
  | _ => none }
def FnExactBytesNumWrongFalsely : Prop := fnExactBytesNumRow.holds Try.pinned (OpenSpec.ofChange fnExactBytesNumWrong)

/- THE SECOND FORM. 'bulk': how many values and letters a reading holds, each counted each time it is reached (what is shared counts as often as it is met; a slice's spare places count too). A statement '..UptoSaid' is the law's where the arguments, and the package variables that the reading takes, are together of bulk at most 1048576: NARROWER than '..Said'. Prove '..Said' where nothing that the law and all that it calls make is longer than what came in: it says more and counts as full. Else prove '..UptoSaid'. A law counts once. -/
mutual
def uptoBulk {H : Type} : DataW H → Nat
  | .lit (.string bytes) => bytes.length + 1
  | .lit _ => 1
  | .nil => 1
  | .ptr d => uptoBulk d + 1
  | .slice elems spare => uptoBulkAll elems + uptoBulkAll spare + 1
  | .agg parts => uptoBulkAll parts + 1
  | .iface _ d => uptoBulk d + 1
  | .map entries => uptoBulkEntries entries + 1
  | .held _ => 1
def uptoBulkAll {H : Type} : List (DataW H) → Nat
  | [] => 0
  | d :: r => uptoBulk d + uptoBulkAll r
def uptoBulkEntries {H : Type} : List (Lit × DataW H) → Nat
  | [] => 0
  | x :: r => uptoBulkEntry x + uptoBulkEntries r
def uptoBulkEntry {H : Type} : Lit × DataW H → Nat
  | (.string bytes, d) => bytes.length + uptoBulk d + 1
  | (_, d) => uptoBulk d + 1
 end
def uptoSmall : (H : Type) → List (DataW H) → Bool := fun _ ds => decide (uptoBulkAll ds ≤ 1048576)
def OpenSpec.upto (s : _root_.Go.ChangeSpec) : _root_.Go.OpenSpec := { _root_.Go.OpenSpec.ofChange s with cond := some uptoSmall }

/-- 'laws.FnHexes', WHERE WHAT IT READS IS OF BULK AT MOST 1048576: true; the input reads as it did. -/
def fnHexesUptoRow : OpenClaim := { program := "ytobjbnefikdlnaa", sum := "ada2d8715d3dce31ca9d7dbd7fe146f7a0f7458f2ef7187640dbd04f0fcb670b", func := "loop.example/g00702/laws.FnHexes", spec := "fnHexes", apart := false, narrowed := true }
def FnHexesUptoSaid : Prop := fnHexesUptoRow.holds Try.pinned (OpenSpec.upto fnHexesSpec)

/-- 'laws.FnXor', WHERE WHAT IT READS IS OF BULK AT MOST 1048576: true; the input reads as it did. -/
def fnXorUptoRow : OpenClaim := { program := "ytobjbnefikdlnaa", sum := "ada2d8715d3dce31ca9d7dbd7fe146f7a0f7458f2ef7187640dbd04f0fcb670b", func := "loop.example/g00702/laws.FnXor", spec := "fnXor", apart := false, narrowed := true }
def FnXorUptoSaid : Prop := fnXorUptoRow.holds Try.pinned (OpenSpec.upto fnXorSpec)

/-- 'laws.FnNums', WHERE WHAT IT READS IS OF BULK AT MOST 1048576: true; the input reads as it did. -/
def fnNumsUptoRow : OpenClaim := { program := "ytobjbnefikdlnaa", sum := "ada2d8715d3dce31ca9d7dbd7fe146f7a0f7458f2ef7187640dbd04f0fcb670b", func := "loop.example/g00702/laws.FnNums", spec := "fnNums", apart := false, narrowed := true }
def FnNumsUptoSaid : Prop := fnNumsUptoRow.holds Try.pinned (OpenSpec.upto fnNumsSpec)

/-- 'laws.FnNumOrder', WHERE WHAT IT READS IS OF BULK AT MOST 1048576: true; the input reads as it did. -/
def fnNumOrderUptoRow : OpenClaim := { program := "ytobjbnefikdlnaa", sum := "ada2d8715d3dce31ca9d7dbd7fe146f7a0f7458f2ef7187640dbd04f0fcb670b", func := "loop.example/g00702/laws.FnNumOrder", spec := "fnNumOrder", apart := false, narrowed := true }
def FnNumOrderUptoSaid : Prop := fnNumOrderUptoRow.holds Try.pinned (OpenSpec.upto fnNumOrderSpec)

/-- 'laws.FnExactHexOf', WHERE WHAT IT READS IS OF BULK AT MOST 1048576: true; the input reads as it did. -/
def fnExactHexOfUptoRow : OpenClaim := { program := "ytobjbnefikdlnaa", sum := "ada2d8715d3dce31ca9d7dbd7fe146f7a0f7458f2ef7187640dbd04f0fcb670b", func := "loop.example/g00702/laws.FnExactHexOf", spec := "fnExactHexOf", apart := false, narrowed := true }
def FnExactHexOfUptoSaid : Prop := fnExactHexOfUptoRow.holds Try.pinned (OpenSpec.upto fnExactHexOfSpec)

/-- 'laws.FnExactReadHex', WHERE WHAT IT READS IS OF BULK AT MOST 1048576: true; the input reads as it did. -/
def fnExactReadHexUptoRow : OpenClaim := { program := "ytobjbnefikdlnaa", sum := "ada2d8715d3dce31ca9d7dbd7fe146f7a0f7458f2ef7187640dbd04f0fcb670b", func := "loop.example/g00702/laws.FnExactReadHex", spec := "fnExactReadHex", apart := false, narrowed := true }
def FnExactReadHexUptoSaid : Prop := fnExactReadHexUptoRow.holds Try.pinned (OpenSpec.upto fnExactReadHexSpec)

/-- 'laws.FnExactXorOf', WHERE WHAT IT READS IS OF BULK AT MOST 1048576: true; the input reads as it did. -/
def fnExactXorOfUptoRow : OpenClaim := { program := "ytobjbnefikdlnaa", sum := "ada2d8715d3dce31ca9d7dbd7fe146f7a0f7458f2ef7187640dbd04f0fcb670b", func := "loop.example/g00702/laws.FnExactXorOf", spec := "fnExactXorOf", apart := false, narrowed := true }
def FnExactXorOfUptoSaid : Prop := fnExactXorOfUptoRow.holds Try.pinned (OpenSpec.upto fnExactXorOfSpec)

/-- 'laws.FnExactNumBytes', WHERE WHAT IT READS IS OF BULK AT MOST 1048576: true; the input reads as it did. -/
def fnExactNumBytesUptoRow : OpenClaim := { program := "ytobjbnefikdlnaa", sum := "ada2d8715d3dce31ca9d7dbd7fe146f7a0f7458f2ef7187640dbd04f0fcb670b", func := "loop.example/g00702/laws.FnExactNumBytes", spec := "fnExactNumBytes", apart := false, narrowed := true }
def FnExactNumBytesUptoSaid : Prop := fnExactNumBytesUptoRow.holds Try.pinned (OpenSpec.upto fnExactNumBytesSpec)

/-- 'laws.FnExactBytesNum', WHERE WHAT IT READS IS OF BULK AT MOST 1048576: true; the input reads as it did. -/
def fnExactBytesNumUptoRow : OpenClaim := { program := "ytobjbnefikdlnaa", sum := "ada2d8715d3dce31ca9d7dbd7fe146f7a0f7458f2ef7187640dbd04f0fcb670b", func := "loop.example/g00702/laws.FnExactBytesNum", spec := "fnExactBytesNum", apart := false, narrowed := true }
def FnExactBytesNumUptoSaid : Prop := fnExactBytesNumUptoRow.holds Try.pinned (OpenSpec.upto fnExactBytesNumSpec)

end Rows
end Go.Proofs.Ytobjbnefikdlnaa
