/-
  No cell of these rows narrows 'for every input' (looked for: loops, veiled, ifaces, maps, wideKeys, modest, calm, conditions, laid).
  DERIVED. THE GIVEN ROWS OF THIS SEAT. 5 by the template 'for every input the law returns true; each argument reads behind the call as it read before'; 0 by the template 'total and deterministic' (their statements: YtkglgficmealnaaTotals.lean).
  GIVEN WITH THE SEED: the statements are not yours to turn. If you find one false, say at which input.
  Laid BY PROGRAM, IN A SANDBOX (cutbox-rows.mjs): the forced cells as the released guide's own fill.sh prints them over the translation b476cfe8b6eb5892… (all of the seat's roots in one cut). By AI agents, Wed Nov 11 2026. No macro, syntax, notation, axiom, sorry.
-/
import Derived.Test.YtkglgficmealnaaChecked
import GoSem.Claim
import GoSem.ClaimJoined
import GoSem.ClaimMapViews
import Derived.JoinedTies
import Derived.KernelRfl
namespace Go.Proofs.Ytkglgficmealnaa
/- THE CELL 'sum', in the pinned program and in every row, IS THE sha256 OF THE DUMP (.gsa) THAT YtkglgficmealnaaProg.lean LOADS. Nothing in Lean hashes anything: it is a label: what it is worth is what the hold of that sum in a sandbox is worth. -/
noncomputable def Try.pinned : Pinned := { name := "ytkglgficmealnaa", sum := "b476cfe8b6eb58925c94b0f5c5154ca0b556c87c61e8212b82018057ace91b35", checked := Try.checked }
namespace Rows
def none {H : Type} : Left H := { results := [], args := [] }

/-- 'laws.FnExactSessionOk': WHATEVER THE INPUT: true; the input reads as it did. -/
def fnExactSessionOkSpec : ChangeSpec := { name := "fnExactSessionOk", fn := fun _ => fun
  | [d] => { results := [.lit (.bool true)], args := [d] }
  | _ => none }
def fnExactSessionOkRow : OpenClaim := { program := "ytkglgficmealnaa", sum := "b476cfe8b6eb58925c94b0f5c5154ca0b556c87c61e8212b82018057ace91b35", func := "loop.example/g00702/laws.FnExactSessionOk", spec := "fnExactSessionOk", unfollowed := true, recurses := true, plainKeys := false, apart := false }
def FnExactSessionOkSaid : Prop := fnExactSessionOkRow.holds Try.pinned (OpenSpec.ofChange fnExactSessionOkSpec)

/-- ITS FALSE NEIGHBOUR: 'it returns false'. Refute it at one input. -/
def fnExactSessionOkWrong : ChangeSpec := { name := "fnExactSessionOk", fn := fun _ => fun
  | [d] => { results := [.lit (.bool false)], args := [d] }
  | _ => none }
def FnExactSessionOkWrongFalsely : Prop := fnExactSessionOkRow.holds Try.pinned (OpenSpec.ofChange fnExactSessionOkWrong)

/-- 'laws.FnExactForget': WHATEVER THE INPUT: true; the input reads as it did. -/
def fnExactForgetSpec : ChangeSpec := { name := "fnExactForget", fn := fun _ => fun
  | [d] => { results := [.lit (.bool true)], args := [d] }
  | _ => none }
def fnExactForgetRow : OpenClaim := { program := "ytkglgficmealnaa", sum := "b476cfe8b6eb58925c94b0f5c5154ca0b556c87c61e8212b82018057ace91b35", func := "loop.example/g00702/laws.FnExactForget", spec := "fnExactForget", unfollowed := true, recurses := true, plainKeys := false, apart := false }
def FnExactForgetSaid : Prop := fnExactForgetRow.holds Try.pinned (OpenSpec.ofChange fnExactForgetSpec)

/-- ITS FALSE NEIGHBOUR: 'it returns false'. Refute it at one input. -/
def fnExactForgetWrong : ChangeSpec := { name := "fnExactForget", fn := fun _ => fun
  | [d] => { results := [.lit (.bool false)], args := [d] }
  | _ => none }
def FnExactForgetWrongFalsely : Prop := fnExactForgetRow.holds Try.pinned (OpenSpec.ofChange fnExactForgetWrong)

/-- 'laws.FnExactDeviceOk': WHATEVER THE INPUT: true; the input reads as it did. -/
def fnExactDeviceOkSpec : ChangeSpec := { name := "fnExactDeviceOk", fn := fun _ => fun
  | [d] => { results := [.lit (.bool true)], args := [d] }
  | _ => none }
def fnExactDeviceOkRow : OpenClaim := { program := "ytkglgficmealnaa", sum := "b476cfe8b6eb58925c94b0f5c5154ca0b556c87c61e8212b82018057ace91b35", func := "loop.example/g00702/laws.FnExactDeviceOk", spec := "fnExactDeviceOk", unfollowed := true, recurses := true, plainKeys := false, apart := false }
def FnExactDeviceOkSaid : Prop := fnExactDeviceOkRow.holds Try.pinned (OpenSpec.ofChange fnExactDeviceOkSpec)

/-- ITS FALSE NEIGHBOUR: 'it returns false'. Refute it at one input. -/
def fnExactDeviceOkWrong : ChangeSpec := { name := "fnExactDeviceOk", fn := fun _ => fun
  | [d] => { results := [.lit (.bool false)], args := [d] }
  | _ => none }
def FnExactDeviceOkWrongFalsely : Prop := fnExactDeviceOkRow.holds Try.pinned (OpenSpec.ofChange fnExactDeviceOkWrong)

/-- 'laws.FnExactBundleOf': WHATEVER THE INPUT: true; the input reads as it did. -/
def fnExactBundleOfSpec : ChangeSpec := { name := "fnExactBundleOf", fn := fun _ => fun
  | [d1, d2] => { results := [.lit (.bool true)], args := [d1, d2] }
  | _ => none }
def fnExactBundleOfRow : OpenClaim := { program := "ytkglgficmealnaa", sum := "b476cfe8b6eb58925c94b0f5c5154ca0b556c87c61e8212b82018057ace91b35", func := "loop.example/g00702/laws.FnExactBundleOf", spec := "fnExactBundleOf", unfollowed := true, recurses := true, plainKeys := false, apart := false }
def FnExactBundleOfSaid : Prop := fnExactBundleOfRow.holds Try.pinned (OpenSpec.ofChange fnExactBundleOfSpec)

/-- ITS FALSE NEIGHBOUR: 'it returns false'. Refute it at one input. -/
def fnExactBundleOfWrong : ChangeSpec := { name := "fnExactBundleOf", fn := fun _ => fun
  | [d1, d2] => { results := [.lit (.bool false)], args := [d1, d2] }
  | _ => none }
def FnExactBundleOfWrongFalsely : Prop := fnExactBundleOfRow.holds Try.pinned (OpenSpec.ofChange fnExactBundleOfWrong)

/-- 'laws.FnExactActiveOf': WHATEVER THE INPUT: true; the input reads as it did. -/
def fnExactActiveOfSpec : ChangeSpec := { name := "fnExactActiveOf", fn := fun _ => fun
  | [d1, d2] => { results := [.lit (.bool true)], args := [d1, d2] }
  | _ => none }
def fnExactActiveOfRow : OpenClaim := { program := "ytkglgficmealnaa", sum := "b476cfe8b6eb58925c94b0f5c5154ca0b556c87c61e8212b82018057ace91b35", func := "loop.example/g00702/laws.FnExactActiveOf", spec := "fnExactActiveOf", unfollowed := true, recurses := true, plainKeys := false, apart := false }
def FnExactActiveOfSaid : Prop := fnExactActiveOfRow.holds Try.pinned (OpenSpec.ofChange fnExactActiveOfSpec)

/-- ITS FALSE NEIGHBOUR: 'it returns false'. Refute it at one input. -/
def fnExactActiveOfWrong : ChangeSpec := { name := "fnExactActiveOf", fn := fun _ => fun
  | [d1, d2] => { results := [.lit (.bool false)], args := [d1, d2] }
  | _ => none }
def FnExactActiveOfWrongFalsely : Prop := fnExactActiveOfRow.holds Try.pinned (OpenSpec.ofChange fnExactActiveOfWrong)

/- THE SECOND FORM. 'bulk': how many values and letters a reading holds, each counted each time it is reached (what is shared counts as often as it is met; a slice's spare places count too). A statement '..UptoSaid' is the law's where the arguments, and the package variables that the reading takes, are together of bulk at most 1048576: NARROWER than '..Said'. Prove '..Said' where nothing that the law and all that it calls make is longer than what came in: it says more and counts as full. Else prove '..UptoSaid'. A law counts once. -/
mutual
def uptoBulk {H : Type} : DataW H → Nat
  | .lit (.string bytes) => bytes.length + 1
  | .lit _ => 1
  | .nil => 1
  | .ptr d => uptoBulk d + 1
  | .slice elems spare => uptoBulkAll elems + uptoBulkAll spare + 1
  | .agg parts => uptoBulkAll parts + 1
  | .iface _ d => uptoBulk d + 1
  | .map entries => uptoBulkEntries entries + 1
  | .held _ => 1
def uptoBulkAll {H : Type} : List (DataW H) → Nat
  | [] => 0
  | d :: r => uptoBulk d + uptoBulkAll r
def uptoBulkEntries {H : Type} : List (Lit × DataW H) → Nat
  | [] => 0
  | x :: r => uptoBulkEntry x + uptoBulkEntries r
def uptoBulkEntry {H : Type} : Lit × DataW H → Nat
  | (.string bytes, d) => bytes.length + uptoBulk d + 1
  | (_, d) => uptoBulk d + 1
 end
def uptoSmall : (H : Type) → List (DataW H) → Bool := fun _ ds => decide (uptoBulkAll ds ≤ 1048576)
def OpenSpec.upto (s : _root_.Go.ChangeSpec) : _root_.Go.OpenSpec := { _root_.Go.OpenSpec.ofChange s with cond := some uptoSmall }

/-- 'laws.FnExactSessionOk', WHERE WHAT IT READS IS OF BULK AT MOST 1048576: true; the input reads as it did. -/
def fnExactSessionOkUptoRow : OpenClaim := { program := "ytkglgficmealnaa", sum := "b476cfe8b6eb58925c94b0f5c5154ca0b556c87c61e8212b82018057ace91b35", func := "loop.example/g00702/laws.FnExactSessionOk", spec := "fnExactSessionOk", unfollowed := true, recurses := true, plainKeys := false, apart := false, narrowed := true }
def FnExactSessionOkUptoSaid : Prop := fnExactSessionOkUptoRow.holds Try.pinned (OpenSpec.upto fnExactSessionOkSpec)

/-- 'laws.FnExactForget', WHERE WHAT IT READS IS OF BULK AT MOST 1048576: true; the input reads as it did. -/
def fnExactForgetUptoRow : OpenClaim := { program := "ytkglgficmealnaa", sum := "b476cfe8b6eb58925c94b0f5c5154ca0b556c87c61e8212b82018057ace91b35", func := "loop.example/g00702/laws.FnExactForget", spec := "fnExactForget", unfollowed := true, recurses := true, plainKeys := false, apart := false, narrowed := true }
def FnExactForgetUptoSaid : Prop := fnExactForgetUptoRow.holds Try.pinned (OpenSpec.upto fnExactForgetSpec)

/-- 'laws.FnExactDeviceOk', WHERE WHAT IT READS IS OF BULK AT MOST 1048576: true; the input reads as it did. -/
def fnExactDeviceOkUptoRow : OpenClaim := { program := "ytkglgficmealnaa", sum := "b476cfe8b6eb58925c94b0f5c5154ca0b556c87c61e8212b82018057ace91b35", func := "loop.example/g00702/laws.FnExactDeviceOk", spec := "fnExactDeviceOk", unfollowed := true, recurses := true, plainKeys := false, apart := false, narrowed := true }
def FnExactDeviceOkUptoSaid : Prop := fnExactDeviceOkUptoRow.holds Try.pinned (OpenSpec.upto fnExactDeviceOkSpec)

/-- 'laws.FnExactBundleOf', WHERE WHAT IT READS IS OF BULK AT MOST 1048576: true; the input reads as it did. -/
def fnExactBundleOfUptoRow : OpenClaim := { program := "ytkglgficmealnaa", sum := "b476cfe8b6eb58925c94b0f5c5154ca0b556c87c61e8212b82018057ace91b35", func := "loop.example/g00702/laws.FnExactBundleOf", spec := "fnExactBundleOf", unfollowed := true, recurses := true, plainKeys := false, apart := false, narrowed := true }
def FnExactBundleOfUptoSaid : Prop := fnExactBundleOfUptoRow.holds Try.pinned (OpenSpec.upto fnExactBundleOfSpec)

/-- 'laws.FnExactActiveOf', WHERE WHAT IT READS IS OF BULK AT MOST 1048576: true; the input reads as it did. -/
def fnExactActiveOfUptoRow : OpenClaim := { program := "ytkglgficmealnaa", sum := "b476cfe8b6eb58925c94b0f5c5154ca0b556c87c61e8212b82018057ace91b35", func := "loop.example/g00702/laws.FnExactActiveOf", spec := "fnExactActiveOf", unfollowed := true, recurses := true, plainKeys := false, apart := false, narrowed := true }
def FnExactActiveOfUptoSaid : Prop := fnExactActiveOfUptoRow.holds Try.pinned (OpenSpec.upto fnExactActiveOfSpec)

end Rows
end Go.Proofs.Ytkglgficmealnaa
