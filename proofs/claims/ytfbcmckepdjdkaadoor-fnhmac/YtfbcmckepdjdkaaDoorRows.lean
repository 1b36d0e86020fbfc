/-
  NARROWER THAN 'FOR EVERY INPUT', by the rows' own cells (each row's printed sentence says how): FnExactStartA: laid · FnExactSharedA: laid · FnExactSharedB: laid · FnShared: laid · FnExactPairOf: laid · FnHmac: laid · FnHkdf: laid · FnExactReadEnv: ifaces, laid · FnMsgs: ifaces, laid · FnEnvs: ifaces, laid · FnExactNewDevice: laid.
  DERIVED. THE GIVEN ROWS OF THIS SEAT. 11 by the template 'for every input the law returns true; each argument reads behind the call as it read before'; 0 by the template 'total and deterministic' (their statements: YtfbcmckepdjdkaaDoorTotals.lean).
  GIVEN WITH THE SEED: the statements are not yours to turn. If you find one false, say at which input.
  Laid BY PROGRAM, IN A SANDBOX (cutbox-rows.mjs): the forced cells as the released guide's own fill.sh prints them over the translation 232e6ce228c0b84e… (all of the seat's roots in one cut). By AI agents, Wed Nov 11 2026. No macro, syntax, notation, axiom, sorry.
-/
import Derived.Test.YtfbcmckepdjdkaaDoorChecked
import GoSem.Claim
import GoSem.ClaimJoined
import GoSem.ClaimMapViews
import Derived.JoinedTies
import Derived.KernelRfl
namespace Go.Proofs.YtfbcmckepdjdkaaDoor
/- THE CELL 'sum', in the pinned program and in every row, IS THE sha256 OF THE DUMP (.gsa) THAT YtfbcmckepdjdkaaDoorProg.lean LOADS. Nothing in Lean hashes anything: it is a label: what it is worth is what the hold of that sum in a sandbox is worth. -/
noncomputable def Tryd.pinned : Pinned := { name := "ytfbcmckepdjdkaadoor", sum := "232e6ce228c0b84e728e792cd2ce352a0bdd9b0b33767003c5452a7283eae341", checked := Tryd.checked }
namespace Rows
def none {H : Type} : Left H := { results := [], args := [] }

/- WHAT THE LISTED PACKAGE-LEVEL VARIABLES READ AS WHEN THE CALL BEGINS. Each datum BY PROGRAM (the guide's laid-datum.mjs) off the statement by which the dump's own 'gosem.cut.vars' lays the variable. In a bare row this is a premise. The card (YtfbcmckepdjdkaaDoorCards.lean) ties it to the program's text. -/
def laid_loop_example_g00702_impl_roundWords {H : Type} : DataW H := .agg [.lit (.int .u32 1116352408), .lit (.int .u32 1899447441), .lit (.int .u32 3049323471), .lit (.int .u32 3921009573), .lit (.int .u32 961987163), .lit (.int .u32 1508970993), .lit (.int .u32 2453635748), .lit (.int .u32 2870763221), .lit (.int .u32 3624381080), .lit (.int .u32 310598401), .lit (.int .u32 607225278), .lit (.int .u32 1426881987), .lit (.int .u32 1925078388), .lit (.int .u32 2162078206), .lit (.int .u32 2614888103), .lit (.int .u32 3248222580), .lit (.int .u32 3835390401), .lit (.int .u32 4022224774), .lit (.int .u32 264347078), .lit (.int .u32 604807628), .lit (.int .u32 770255983), .lit (.int .u32 1249150122), .lit (.int .u32 1555081692), .lit (.int .u32 1996064986), .lit (.int .u32 2554220882), .lit (.int .u32 2821834349), .lit (.int .u32 2952996808), .lit (.int .u32 3210313671), .lit (.int .u32 3336571891), .lit (.int .u32 3584528711), .lit (.int .u32 113926993), .lit (.int .u32 338241895), .lit (.int .u32 666307205), .lit (.int .u32 773529912), .lit (.int .u32 1294757372), .lit (.int .u32 1396182291), .lit (.int .u32 1695183700), .lit (.int .u32 1986661051), .lit (.int .u32 2177026350), .lit (.int .u32 2456956037), .lit (.int .u32 2730485921), .lit (.int .u32 2820302411), .lit (.int .u32 3259730800), .lit (.int .u32 3345764771), .lit (.int .u32 3516065817), .lit (.int .u32 3600352804), .lit (.int .u32 4094571909), .lit (.int .u32 275423344), .lit (.int .u32 430227734), .lit (.int .u32 506948616), .lit (.int .u32 659060556), .lit (.int .u32 883997877), .lit (.int .u32 958139571), .lit (.int .u32 1322822218), .lit (.int .u32 1537002063), .lit (.int .u32 1747873779), .lit (.int .u32 1955562222), .lit (.int .u32 2024104815), .lit (.int .u32 2227730452), .lit (.int .u32 2361852424), .lit (.int .u32 2428436474), .lit (.int .u32 2756734187), .lit (.int .u32 3204031479), .lit (.int .u32 3329325298)]
def laid_loop_example_g00702_impl_prime {H : Type} : DataW H := .agg [.lit (.int .u64 18446744073709551597), .lit (.int .u64 18446744073709551615), .lit (.int .u64 18446744073709551615), .lit (.int .u64 9223372036854775807)]
def laid_loop_example_g00702_impl_errWire {H : Type} : DataW H := .iface "*errors.errorString" (.ptr (.agg [.lit (.string [116, 104, 101, 115, 101, 32, 98, 121, 116, 101, 115, 32, 101, 110, 99, 111, 100, 101, 32, 110, 111, 32, 118, 97, 108, 117, 101])]))

/-- 'laws.FnExactStartA': WHATEVER THE INPUT: true; the input reads as it did. -/
def fnExactStartASpec : ChangeSpec := { name := "fnExactStartA", vars := ["loop.example/g00702/impl.prime", "loop.example/g00702/impl.roundWords"], fn := fun _ => fun
  | [d1, d2, d3, g1, g2] => { results := [.lit (.bool true)], args := [d1, d2, d3], vars := [g1, g2] }
  | _ => none }
def fnExactStartARow : OpenClaim := { program := "ytfbcmckepdjdkaadoor", sum := "232e6ce228c0b84e728e792cd2ce352a0bdd9b0b33767003c5452a7283eae341", func := "loop.example/g00702/laws.FnExactStartA", spec := "fnExactStartA", inPlace := ["math/bits.Sub64", "math/bits.Add64"], unfollowed := true, recurses := true, named := ["loop.example/g00702/impl.prime", "loop.example/g00702/impl.roundWords"], apart := false, laid := [("loop.example/g00702/impl.roundWords", laid_loop_example_g00702_impl_roundWords), ("loop.example/g00702/impl.prime", laid_loop_example_g00702_impl_prime)] }
def FnExactStartASaid : Prop := fnExactStartARow.holds Tryd.pinned (OpenSpec.ofChange fnExactStartASpec)

/-- ITS FALSE NEIGHBOUR: 'it returns false'. Refute it at one input. -/
def fnExactStartAWrong : ChangeSpec := { name := "fnExactStartA", vars := ["loop.example/g00702/impl.prime", "loop.example/g00702/impl.roundWords"], fn := fun _ => fun
  | [d1, d2, d3, g1, g2] => { results := [.lit (.bool false)], args := [d1, d2, d3], vars := [g1, g2] }
  | _ => none }
def FnExactStartAWrongFalsely : Prop := fnExactStartARow.holds Tryd.pinned (OpenSpec.ofChange fnExactStartAWrong)

/-- 'laws.FnExactSharedA': WHATEVER THE INPUT: true; the input reads as it did. -/
def fnExactSharedASpec : ChangeSpec := { name := "fnExactSharedA", vars := ["loop.example/g00702/impl.prime", "loop.example/g00702/impl.roundWords"], fn := fun _ => fun
  | [d1, d2, d3, g1, g2] => { results := [.lit (.bool true)], args := [d1, d2, d3], vars := [g1, g2] }
  | _ => none }
def fnExactSharedARow : OpenClaim := { program := "ytfbcmckepdjdkaadoor", sum := "232e6ce228c0b84e728e792cd2ce352a0bdd9b0b33767003c5452a7283eae341", func := "loop.example/g00702/laws.FnExactSharedA", spec := "fnExactSharedA", inPlace := ["math/bits.Sub64", "math/bits.Add64", "internal/abi.NoEscape", "internal/bytealg.MakeNoZero"], unfollowed := true, recurses := true, named := ["loop.example/g00702/impl.prime", "loop.example/g00702/impl.roundWords"], apart := false, laid := [("loop.example/g00702/impl.roundWords", laid_loop_example_g00702_impl_roundWords), ("loop.example/g00702/impl.prime", laid_loop_example_g00702_impl_prime)] }
def FnExactSharedASaid : Prop := fnExactSharedARow.holds Tryd.pinned (OpenSpec.ofChange fnExactSharedASpec)

/-- ITS FALSE NEIGHBOUR: 'it returns false'. Refute it at one input. -/
def fnExactSharedAWrong : ChangeSpec := { name := "fnExactSharedA", vars := ["loop.example/g00702/impl.prime", "loop.example/g00702/impl.roundWords"], fn := fun _ => fun
  | [d1, d2, d3, g1, g2] => { results := [.lit (.bool false)], args := [d1, d2, d3], vars := [g1, g2] }
  | _ => none }
def FnExactSharedAWrongFalsely : Prop := fnExactSharedARow.holds Tryd.pinned (OpenSpec.ofChange fnExactSharedAWrong)

/-- 'laws.FnExactSharedB': WHATEVER THE INPUT: true; the input reads as it did. -/
def fnExactSharedBSpec : ChangeSpec := { name := "fnExactSharedB", vars := ["loop.example/g00702/impl.prime", "loop.example/g00702/impl.roundWords"], fn := fun _ => fun
  | [d1, d2, d3, d4, d5, g1, g2] => { results := [.lit (.bool true)], args := [d1, d2, d3, d4, d5], vars := [g1, g2] }
  | _ => none }
def fnExactSharedBRow : OpenClaim := { program := "ytfbcmckepdjdkaadoor", sum := "232e6ce228c0b84e728e792cd2ce352a0bdd9b0b33767003c5452a7283eae341", func := "loop.example/g00702/laws.FnExactSharedB", spec := "fnExactSharedB", inPlace := ["math/bits.Sub64", "math/bits.Add64", "internal/abi.NoEscape", "internal/bytealg.MakeNoZero"], unfollowed := true, recurses := true, named := ["loop.example/g00702/impl.prime", "loop.example/g00702/impl.roundWords"], apart := false, laid := [("loop.example/g00702/impl.roundWords", laid_loop_example_g00702_impl_roundWords), ("loop.example/g00702/impl.prime", laid_loop_example_g00702_impl_prime)] }
def FnExactSharedBSaid : Prop := fnExactSharedBRow.holds Tryd.pinned (OpenSpec.ofChange fnExactSharedBSpec)

/-- ITS FALSE NEIGHBOUR: 'it returns false'. Refute it at one input. -/
def fnExactSharedBWrong : ChangeSpec := { name := "fnExactSharedB", vars := ["loop.example/g00702/impl.prime", "loop.example/g00702/impl.roundWords"], fn := fun _ => fun
  | [d1, d2, d3, d4, d5, g1, g2] => { results := [.lit (.bool false)], args := [d1, d2, d3, d4, d5], vars := [g1, g2] }
  | _ => none }
def FnExactSharedBWrongFalsely : Prop := fnExactSharedBRow.holds Tryd.pinned (OpenSpec.ofChange fnExactSharedBWrong)

/-- 'laws.FnShared': WHATEVER THE INPUT: true; the input reads as it did. -/
def fnSharedSpec : ChangeSpec := { name := "fnShared", vars := ["loop.example/g00702/impl.prime", "loop.example/g00702/impl.roundWords"], fn := fun _ => fun
  | [d, g1, g2] => { results := [.lit (.bool true)], args := [d], vars := [g1, g2] }
  | _ => none }
def fnSharedRow : OpenClaim := { program := "ytfbcmckepdjdkaadoor", sum := "232e6ce228c0b84e728e792cd2ce352a0bdd9b0b33767003c5452a7283eae341", func := "loop.example/g00702/laws.FnShared", spec := "fnShared", inPlace := ["math/bits.Sub64", "math/bits.Add64", "internal/abi.NoEscape", "internal/bytealg.MakeNoZero"], unfollowed := true, recurses := true, named := ["loop.example/g00702/impl.prime", "loop.example/g00702/impl.roundWords"], apart := false, laid := [("loop.example/g00702/impl.roundWords", laid_loop_example_g00702_impl_roundWords), ("loop.example/g00702/impl.prime", laid_loop_example_g00702_impl_prime)] }
def FnSharedSaid : Prop := fnSharedRow.holds Tryd.pinned (OpenSpec.ofChange fnSharedSpec)

/-- ITS FALSE NEIGHBOUR: 'it returns false'. Refute it at one input. -/
def fnSharedWrong : ChangeSpec := { name := "fnShared", vars := ["loop.example/g00702/impl.prime", "loop.example/g00702/impl.roundWords"], fn := fun _ => fun
  | [d, g1, g2] => { results := [.lit (.bool false)], args := [d], vars := [g1, g2] }
  | _ => none }
def FnSharedWrongFalsely : Prop := fnSharedRow.holds Tryd.pinned (OpenSpec.ofChange fnSharedWrong)

/-- 'laws.FnExactPairOf': WHATEVER THE INPUT: true; the input reads as it did. -/
def fnExactPairOfSpec : ChangeSpec := { name := "fnExactPairOf", vars := ["loop.example/g00702/impl.prime"], fn := fun _ => fun
  | [d, g1] => { results := [.lit (.bool true)], args := [d], vars := [g1] }
  | _ => none }
def fnExactPairOfRow : OpenClaim := { program := "ytfbcmckepdjdkaadoor", sum := "232e6ce228c0b84e728e792cd2ce352a0bdd9b0b33767003c5452a7283eae341", func := "loop.example/g00702/laws.FnExactPairOf", spec := "fnExactPairOf", inPlace := ["math/bits.Sub64", "math/bits.Add64"], named := ["loop.example/g00702/impl.prime"], apart := false, laid := [("loop.example/g00702/impl.prime", laid_loop_example_g00702_impl_prime)] }
def FnExactPairOfSaid : Prop := fnExactPairOfRow.holds Tryd.pinned (OpenSpec.ofChange fnExactPairOfSpec)

/-- ITS FALSE NEIGHBOUR: 'it returns false'. Refute it at one input. -/
def fnExactPairOfWrong : ChangeSpec := { name := "fnExactPairOf", vars := ["loop.example/g00702/impl.prime"], fn := fun _ => fun
  | [d, g1] => { results := [.lit (.bool false)], args := [d], vars := [g1] }
  | _ => none }
def FnExactPairOfWrongFalsely : Prop := fnExactPairOfRow.holds Tryd.pinned (OpenSpec.ofChange fnExactPairOfWrong)

/-- 'laws.FnHmac': WHATEVER THE INPUT: true; the input reads as it did. -/
def fnHmacSpec : ChangeSpec := { name := "fnHmac", vars := ["loop.example/g00702/impl.roundWords"], fn := fun _ => fun
  | [d, g1] => { results := [.lit (.bool true)], args := [d], vars := [g1] }
  | _ => none }
def fnHmacRow : OpenClaim := { program := "ytfbcmckepdjdkaadoor", sum := "232e6ce228c0b84e728e792cd2ce352a0bdd9b0b33767003c5452a7283eae341", func := "loop.example/g00702/laws.FnHmac", spec := "fnHmac", unfollowed := true, recurses := true, named := ["loop.example/g00702/impl.roundWords"], apart := false, laid := [("loop.example/g00702/impl.roundWords", laid_loop_example_g00702_impl_roundWords)] }
def FnHmacSaid : Prop := fnHmacRow.holds Tryd.pinned (OpenSpec.ofChange fnHmacSpec)

/-- ITS FALSE NEIGHBOUR: 'it returns false'. Refute it at one input. -/
def fnHmacWrong : ChangeSpec := { name := "fnHmac", vars := ["loop.example/g00702/impl.roundWords"], fn := fun _ => fun
  | [d, g1] => { results := [.lit (.bool false)], args := [d], vars := [g1] }
  | _ => none }
def FnHmacWrongFalsely : Prop := fnHmacRow.holds Tryd.pinned (OpenSpec.ofChange fnHmacWrong)

/-- 'laws.FnHkdf': WHATEVER THE INPUT: true; the input reads as it did. -/
def fnHkdfSpec : ChangeSpec := { name := "fnHkdf", vars := ["loop.example/g00702/impl.roundWords"], fn := fun _ => fun
  | [d, g1] => { results := [.lit (.bool true)], args := [d], vars := [g1] }
  | _ => none }
def fnHkdfRow : OpenClaim := { program := "ytfbcmckepdjdkaadoor", sum := "232e6ce228c0b84e728e792cd2ce352a0bdd9b0b33767003c5452a7283eae341", func := "loop.example/g00702/laws.FnHkdf", spec := "fnHkdf", unfollowed := true, recurses := true, named := ["loop.example/g00702/impl.roundWords"], apart := false, laid := [("loop.example/g00702/impl.roundWords", laid_loop_example_g00702_impl_roundWords)] }
def FnHkdfSaid : Prop := fnHkdfRow.holds Tryd.pinned (OpenSpec.ofChange fnHkdfSpec)

/-- ITS FALSE NEIGHBOUR: 'it returns false'. Refute it at one input. -/
def fnHkdfWrong : ChangeSpec := { name := "fnHkdf", vars := ["loop.example/g00702/impl.roundWords"], fn := fun _ => fun
  | [d, g1] => { results := [.lit (.bool false)], args := [d], vars := [g1] }
  | _ => none }
def FnHkdfWrongFalsely : Prop := fnHkdfRow.holds Tryd.pinned (OpenSpec.ofChange fnHkdfWrong)

/-- 'laws.FnExactReadEnv': WHATEVER THE INPUT: true; the input reads as it did. -/
def fnExactReadEnvSpec : ChangeSpec := { name := "fnExactReadEnv", vars := ["loop.example/g00702/impl.errWire"], fn := fun _ => fun
  | [d, g1] => { results := [.lit (.bool true)], args := [d], vars := [g1] }
  | _ => none }
def fnExactReadEnvRow : OpenClaim := { program := "ytfbcmckepdjdkaadoor", sum := "232e6ce228c0b84e728e792cd2ce352a0bdd9b0b33767003c5452a7283eae341", func := "loop.example/g00702/laws.FnExactReadEnv", spec := "fnExactReadEnv", unfollowed := true, recurses := true, named := ["loop.example/g00702/impl.errWire"], ifaces := true, apart := false, laid := [("loop.example/g00702/impl.errWire", laid_loop_example_g00702_impl_errWire)] }
def FnExactReadEnvSaid : Prop := fnExactReadEnvRow.holds Tryd.pinned (OpenSpec.ofChange fnExactReadEnvSpec)

/-- ITS FALSE NEIGHBOUR: 'it returns false'. Refute it at one input. -/
def fnExactReadEnvWrong : ChangeSpec := { name := "fnExactReadEnv", vars := ["loop.example/g00702/impl.errWire"], fn := fun _ => fun
  | [d, g1] => { results := [.lit (.bool false)], args := [d], vars := [g1] }
  | _ => none }
def FnExactReadEnvWrongFalsely : Prop := fnExactReadEnvRow.holds Tryd.pinned (OpenSpec.ofChange fnExactReadEnvWrong)

/-- 'laws.FnMsgs': WHATEVER THE INPUT: true; the input reads as it did. -/
def fnMsgsSpec : ChangeSpec := { name := "fnMsgs", vars := ["loop.example/g00702/impl.errWire"], fn := fun _ => fun
  | [d, g1] => { results := [.lit (.bool true)], args := [d], vars := [g1] }
  | _ => none }
def fnMsgsRow : OpenClaim := { program := "ytfbcmckepdjdkaadoor", sum := "232e6ce228c0b84e728e792cd2ce352a0bdd9b0b33767003c5452a7283eae341", func := "loop.example/g00702/laws.FnMsgs", spec := "fnMsgs", unfollowed := true, recurses := true, named := ["loop.example/g00702/impl.errWire"], ifaces := true, apart := false, laid := [("loop.example/g00702/impl.errWire", laid_loop_example_g00702_impl_errWire)] }
def FnMsgsSaid : Prop := fnMsgsRow.holds Tryd.pinned (OpenSpec.ofChange fnMsgsSpec)

/-- ITS FALSE NEIGHBOUR: 'it returns false'. Refute it at one input. -/
def fnMsgsWrong : ChangeSpec := { name := "fnMsgs", vars := ["loop.example/g00702/impl.errWire"], fn := fun _ => fun
  | [d, g1] => { results := [.lit (.bool false)], args := [d], vars := [g1] }
  | _ => none }
def FnMsgsWrongFalsely : Prop := fnMsgsRow.holds Tryd.pinned (OpenSpec.ofChange fnMsgsWrong)

/-- 'laws.FnEnvs': WHATEVER THE INPUT: true; the input reads as it did. -/
def fnEnvsSpec : ChangeSpec := { name := "fnEnvs", vars := ["loop.example/g00702/impl.errWire"], fn := fun _ => fun
  | [d, g1] => { results := [.lit (.bool true)], args := [d], vars := [g1] }
  | _ => none }
def fnEnvsRow : OpenClaim := { program := "ytfbcmckepdjdkaadoor", sum := "232e6ce228c0b84e728e792cd2ce352a0bdd9b0b33767003c5452a7283eae341", func := "loop.example/g00702/laws.FnEnvs", spec := "fnEnvs", unfollowed := true, recurses := true, named := ["loop.example/g00702/impl.errWire"], ifaces := true, apart := false, laid := [("loop.example/g00702/impl.errWire", laid_loop_example_g00702_impl_errWire)] }
def FnEnvsSaid : Prop := fnEnvsRow.holds Tryd.pinned (OpenSpec.ofChange fnEnvsSpec)

/-- ITS FALSE NEIGHBOUR: 'it returns false'. Refute it at one input. -/
def fnEnvsWrong : ChangeSpec := { name := "fnEnvs", vars := ["loop.example/g00702/impl.errWire"], fn := fun _ => fun
  | [d, g1] => { results := [.lit (.bool false)], args := [d], vars := [g1] }
  | _ => none }
def FnEnvsWrongFalsely : Prop := fnEnvsRow.holds Tryd.pinned (OpenSpec.ofChange fnEnvsWrong)

/-- 'laws.FnExactNewDevice': WHATEVER THE INPUT: true; the input reads as it did. -/
def fnExactNewDeviceSpec : ChangeSpec := { name := "fnExactNewDevice", vars := ["loop.example/g00702/impl.prime"], fn := fun _ => fun
  | [d1, d2, d3, g1] => { results := [.lit (.bool true)], args := [d1, d2, d3], vars := [g1] }
  | _ => none }
def fnExactNewDeviceRow : OpenClaim := { program := "ytfbcmckepdjdkaadoor", sum := "232e6ce228c0b84e728e792cd2ce352a0bdd9b0b33767003c5452a7283eae341", func := "loop.example/g00702/laws.FnExactNewDevice", spec := "fnExactNewDevice", inPlace := ["math/bits.Sub64", "math/bits.Add64"], unfollowed := true, recurses := true, named := ["loop.example/g00702/impl.prime"], apart := false, laid := [("loop.example/g00702/impl.prime", laid_loop_example_g00702_impl_prime)] }
def FnExactNewDeviceSaid : Prop := fnExactNewDeviceRow.holds Tryd.pinned (OpenSpec.ofChange fnExactNewDeviceSpec)

/-- ITS FALSE NEIGHBOUR: 'it returns false'. Refute it at one input. -/
def fnExactNewDeviceWrong : ChangeSpec := { name := "fnExactNewDevice", vars := ["loop.example/g00702/impl.prime"], fn := fun _ => fun
  | [d1, d2, d3, g1] => { results := [.lit (.bool false)], args := [d1, d2, d3], vars := [g1] }
  | _ => none }
def FnExactNewDeviceWrongFalsely : Prop := fnExactNewDeviceRow.holds Tryd.pinned (OpenSpec.ofChange fnExactNewDeviceWrong)

/- THE SECOND FORM. 'bulk': how many values and letters a reading holds, each counted each time it is reached (what is shared counts as often as it is met; a slice's spare places count too). A statement '..UptoSaid' is the law's where the arguments, and the package variables that the reading takes, are together of bulk at most 1048576: NARROWER than '..Said'. Prove '..Said' where nothing that the law and all that it calls make is longer than what came in: it says more and counts as full. Else prove '..UptoSaid'. A law counts once. -/
mutual
def uptoBulk {H : Type} : DataW H → Nat
  | .lit (.string bytes) => bytes.length + 1
  | .lit _ => 1
  | .nil => 1
  | .ptr d => uptoBulk d + 1
  | .slice elems spare => uptoBulkAll elems + uptoBulkAll spare + 1
  | .agg parts => uptoBulkAll parts + 1
  | .iface _ d => uptoBulk d + 1
  | .map entries => uptoBulkEntries entries + 1
  | .held _ => 1
def uptoBulkAll {H : Type} : List (DataW H) → Nat
  | [] => 0
  | d :: r => uptoBulk d + uptoBulkAll r
def uptoBulkEntries {H : Type} : List (Lit × DataW H) → Nat
  | [] => 0
  | x :: r => uptoBulkEntry x + uptoBulkEntries r
def uptoBulkEntry {H : Type} : Lit × DataW H → Nat
  | (.string bytes, d) => bytes.length + uptoBulk d + 1
  | (_, d) => uptoBulk d + 1
 end
def uptoSmall : (H : Type) → List (DataW H) → Bool := fun _ ds => decide (uptoBulkAll ds ≤ 1048576)
def OpenSpec.upto (s : _root_.Go.ChangeSpec) : _root_.Go.OpenSpec := { _root_.Go.OpenSpec.ofChange s with cond := some uptoSmall }

/-- 'laws.FnExactStartA', WHERE WHAT IT READS IS OF BULK AT MOST 1048576: true; the input reads as it did. -/
def fnExactStartAUptoRow : OpenClaim := { program := "ytfbcmckepdjdkaadoor", sum := "232e6ce228c0b84e728e792cd2ce352a0bdd9b0b33767003c5452a7283eae341", func := "loop.example/g00702/laws.FnExactStartA", spec := "fnExactStartA", inPlace := ["math/bits.Sub64", "math/bits.Add64"], unfollowed := true, recurses := true, named := ["loop.example/g00702/impl.prime", "loop.example/g00702/impl.roundWords"], apart := false, laid := [("loop.example/g00702/impl.roundWords", laid_loop_example_g00702_impl_roundWords), ("loop.example/g00702/impl.prime", laid_loop_example_g00702_impl_prime)], narrowed := true }
def FnExactStartAUptoSaid : Prop := fnExactStartAUptoRow.holds Tryd.pinned (OpenSpec.upto fnExactStartASpec)

/-- 'laws.FnExactSharedA', WHERE WHAT IT READS IS OF BULK AT MOST 1048576: true; the input reads as it did. -/
def fnExactSharedAUptoRow : OpenClaim := { program := "ytfbcmckepdjdkaadoor", sum := "232e6ce228c0b84e728e792cd2ce352a0bdd9b0b33767003c5452a7283eae341", func := "loop.example/g00702/laws.FnExactSharedA", spec := "fnExactSharedA", inPlace := ["math/bits.Sub64", "math/bits.Add64", "internal/abi.NoEscape", "internal/bytealg.MakeNoZero"], unfollowed := true, recurses := true, named := ["loop.example/g00702/impl.prime", "loop.example/g00702/impl.roundWords"], apart := false, laid := [("loop.example/g00702/impl.roundWords", laid_loop_example_g00702_impl_roundWords), ("loop.example/g00702/impl.prime", laid_loop_example_g00702_impl_prime)], narrowed := true }
def FnExactSharedAUptoSaid : Prop := fnExactSharedAUptoRow.holds Tryd.pinned (OpenSpec.upto fnExactSharedASpec)

/-- 'laws.FnExactSharedB', WHERE WHAT IT READS IS OF BULK AT MOST 1048576: true; the input reads as it did. -/
def fnExactSharedBUptoRow : OpenClaim := { program := "ytfbcmckepdjdkaadoor", sum := "232e6ce228c0b84e728e792cd2ce352a0bdd9b0b33767003c5452a7283eae341", func := "loop.example/g00702/laws.FnExactSharedB", spec := "fnExactSharedB", inPlace := ["math/bits.Sub64", "math/bits.Add64", "internal/abi.NoEscape", "internal/bytealg.MakeNoZero"], unfollowed := true, recurses := true, named := ["loop.example/g00702/impl.prime", "loop.example/g00702/impl.roundWords"], apart := false, laid := [("loop.example/g00702/impl.roundWords", laid_loop_example_g00702_impl_roundWords), ("loop.example/g00702/impl.prime", laid_loop_example_g00702_impl_prime)], narrowed := true }
def FnExactSharedBUptoSaid : Prop := fnExactSharedBUptoRow.holds Tryd.pinned (OpenSpec.upto fnExactSharedBSpec)

/-- 'laws.FnShared', WHERE WHAT IT READS IS OF BULK AT MOST 1048576: true; the input reads as it did. -/
def fnSharedUptoRow : OpenClaim := { program := "ytfbcmckepdjdkaadoor", sum := "232e6ce228c0b84e728e792cd2ce352a0bdd9b0b33767003c5452a7283eae341", func := "loop.example/g00702/laws.FnShared", spec := "fnShared", inPlace := ["math/bits.Sub64", "math/bits.Add64", "internal/abi.NoEscape", "internal/bytealg.MakeNoZero"], unfollowed := true, recurses := true, named := ["loop.example/g00702/impl.prime", "loop.example/g00702/impl.roundWords"], apart := false, laid := [("loop.example/g00702/impl.roundWords", laid_loop_example_g00702_impl_roundWords), ("loop.example/g00702/impl.prime", laid_loop_example_g00702_impl_prime)], narrowed := true }
def FnSharedUptoSaid : Prop := fnSharedUptoRow.holds Tryd.pinned (OpenSpec.upto fnSharedSpec)

/-- 'laws.FnExactPairOf', WHERE WHAT IT READS IS OF BULK AT MOST 1048576: true; the input reads as it did. -/
def fnExactPairOfUptoRow : OpenClaim := { program := "ytfbcmckepdjdkaadoor", sum := "232e6ce228c0b84e728e792cd2ce352a0bdd9b0b33767003c5452a7283eae341", func := "loop.example/g00702/laws.FnExactPairOf", spec := "fnExactPairOf", inPlace := ["math/bits.Sub64", "math/bits.Add64"], named := ["loop.example/g00702/impl.prime"], apart := false, laid := [("loop.example/g00702/impl.prime", laid_loop_example_g00702_impl_prime)], narrowed := true }
def FnExactPairOfUptoSaid : Prop := fnExactPairOfUptoRow.holds Tryd.pinned (OpenSpec.upto fnExactPairOfSpec)

/-- 'laws.FnHmac', WHERE WHAT IT READS IS OF BULK AT MOST 1048576: true; the input reads as it did. -/
def fnHmacUptoRow : OpenClaim := { program := "ytfbcmckepdjdkaadoor", sum := "232e6ce228c0b84e728e792cd2ce352a0bdd9b0b33767003c5452a7283eae341", func := "loop.example/g00702/laws.FnHmac", spec := "fnHmac", unfollowed := true, recurses := true, named := ["loop.example/g00702/impl.roundWords"], apart := false, laid := [("loop.example/g00702/impl.roundWords", laid_loop_example_g00702_impl_roundWords)], narrowed := true }
def FnHmacUptoSaid : Prop := fnHmacUptoRow.holds Tryd.pinned (OpenSpec.upto fnHmacSpec)

/-- 'laws.FnHkdf', WHERE WHAT IT READS IS OF BULK AT MOST 1048576: true; the input reads as it did. -/
def fnHkdfUptoRow : OpenClaim := { program := "ytfbcmckepdjdkaadoor", sum := "232e6ce228c0b84e728e792cd2ce352a0bdd9b0b33767003c5452a7283eae341", func := "loop.example/g00702/laws.FnHkdf", spec := "fnHkdf", unfollowed := true, recurses := true, named := ["loop.example/g00702/impl.roundWords"], apart := false, laid := [("loop.example/g00702/impl.roundWords", laid_loop_example_g00702_impl_roundWords)], narrowed := true }
def FnHkdfUptoSaid : Prop := fnHkdfUptoRow.holds Tryd.pinned (OpenSpec.upto fnHkdfSpec)

/-- 'laws.FnExactReadEnv', WHERE WHAT IT READS IS OF BULK AT MOST 1048576: true; the input reads as it did. -/
def fnExactReadEnvUptoRow : OpenClaim := { program := "ytfbcmckepdjdkaadoor", sum := "232e6ce228c0b84e728e792cd2ce352a0bdd9b0b33767003c5452a7283eae341", func := "loop.example/g00702/laws.FnExactReadEnv", spec := "fnExactReadEnv", unfollowed := true, recurses := true, named := ["loop.example/g00702/impl.errWire"], ifaces := true, apart := false, laid := [("loop.example/g00702/impl.errWire", laid_loop_example_g00702_impl_errWire)], narrowed := true }
def FnExactReadEnvUptoSaid : Prop := fnExactReadEnvUptoRow.holds Tryd.pinned (OpenSpec.upto fnExactReadEnvSpec)

/-- 'laws.FnMsgs', WHERE WHAT IT READS IS OF BULK AT MOST 1048576: true; the input reads as it did. -/
def fnMsgsUptoRow : OpenClaim := { program := "ytfbcmckepdjdkaadoor", sum := "232e6ce228c0b84e728e792cd2ce352a0bdd9b0b33767003c5452a7283eae341", func := "loop.example/g00702/laws.FnMsgs", spec := "fnMsgs", unfollowed := true, recurses := true, named := ["loop.example/g00702/impl.errWire"], ifaces := true, apart := false, laid := [("loop.example/g00702/impl.errWire", laid_loop_example_g00702_impl_errWire)], narrowed := true }
def FnMsgsUptoSaid : Prop := fnMsgsUptoRow.holds Tryd.pinned (OpenSpec.upto fnMsgsSpec)

/-- 'laws.FnEnvs', WHERE WHAT IT READS IS OF BULK AT MOST 1048576: true; the input reads as it did. -/
def fnEnvsUptoRow : OpenClaim := { program := "ytfbcmckepdjdkaadoor", sum := "232e6ce228c0b84e728e792cd2ce352a0bdd9b0b33767003c5452a7283eae341", func := "loop.example/g00702/laws.FnEnvs", spec := "fnEnvs", unfollowed := true, recurses := true, named := ["loop.example/g00702/impl.errWire"], ifaces := true, apart := false, laid := [("loop.example/g00702/impl.errWire", laid_loop_example_g00702_impl_errWire)], narrowed := true }
def FnEnvsUptoSaid : Prop := fnEnvsUptoRow.holds Tryd.pinned (OpenSpec.upto fnEnvsSpec)

/-- 'laws.FnExactNewDevice', WHERE WHAT IT READS IS OF BULK AT MOST 1048576: true; the input reads as it did. -/
def fnExactNewDeviceUptoRow : OpenClaim := { program := "ytfbcmckepdjdkaadoor", sum := "232e6ce228c0b84e728e792cd2ce352a0bdd9b0b33767003c5452a7283eae341", func := "loop.example/g00702/laws.FnExactNewDevice", spec := "fnExactNewDevice", inPlace := ["math/bits.Sub64", "math/bits.Add64"], unfollowed := true, recurses := true, named := ["loop.example/g00702/impl.prime"], apart := false, laid := [("loop.example/g00702/impl.prime", laid_loop_example_g00702_impl_prime)], narrowed := true }
def FnExactNewDeviceUptoSaid : Prop := fnExactNewDeviceUptoRow.holds Tryd.pinned (OpenSpec.upto fnExactNewDeviceSpec)

end Rows
end Go.Proofs.YtfbcmckepdjdkaaDoor
