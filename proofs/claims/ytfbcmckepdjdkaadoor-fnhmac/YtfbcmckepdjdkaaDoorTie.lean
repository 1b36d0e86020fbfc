/-
  DERIVED. GIVEN WITH THE SEED: THE PROGRAM's TIES (one call each: nine closed facts by the kernel) AND EACH ROW's TIE, after the 31st guide's Derived/Test/Toyas{Tie, Card}.lean. No idea stands in it: it is a product of the set-up. Laid BY PROGRAM, IN A SANDBOX (cutbox-door.mjs). By AI agents, Wed Nov 11 2026. No macro, syntax, notation, axiom, sorry.
-/
import Derived.Test.YtfbcmckepdjdkaaDoorRows
import Derived.LaidByTextLater
import Derived.SevenTiedAt
import Derived.LaidSub
import Derived.LaidOnce
namespace Go.Proofs.YtfbcmckepdjdkaaDoor
open Go
set_option maxRecDepth 100000
theorem seatTie1 : Tryd.prog.laidByTextLater [("loop.example/g00702/impl.roundWords", Rows.laid_loop_example_g00702_impl_roundWords), ("loop.example/g00702/impl.prime", Rows.laid_loop_example_g00702_impl_prime), ("loop.example/g00702/impl.errWire", Rows.laid_loop_example_g00702_impl_errWire)] [.data, .data, .sentinel] true :=
  Program.laidByTextLater_by_one 38 8 65 (by kernel_rfl) (by kernel_rfl) (by kernel_rfl) (by kernel_rfl) (by kernel_rfl) (by kernel_rfl) (fun _ _ => by kernel_rfl)
theorem noOwnUnsafe : Tryd.pinned.checked.prog.headLifts.contains "ownunsafe" = false := by kernel_rfl
theorem tie : Tryd.prog.laidByTextLater [("loop.example/g00702/impl.roundWords", Rows.laid_loop_example_g00702_impl_roundWords), ("loop.example/g00702/impl.prime", Rows.laid_loop_example_g00702_impl_prime)] [.data, .data] true :=
  Program.laidByTextLater.sub seatTie1 ["loop.example/g00702/impl.roundWords", "loop.example/g00702/impl.prime"] (by kernel_rfl) (by kernel_rfl)
theorem fnExactStartA_row_tie : Rows.fnExactStartARow.laidByTextAt .later Tryd.pinned [.data, .data] true :=
  OpenClaim.laidByTextAt_later rfl rfl tie noOwnUnsafe
theorem fnExactSharedA_row_tie : Rows.fnExactSharedARow.laidByTextAt .later Tryd.pinned [.data, .data] true :=
  OpenClaim.laidByTextAt_later rfl rfl tie noOwnUnsafe
theorem fnExactSharedB_row_tie : Rows.fnExactSharedBRow.laidByTextAt .later Tryd.pinned [.data, .data] true :=
  OpenClaim.laidByTextAt_later rfl rfl tie noOwnUnsafe
theorem fnShared_row_tie : Rows.fnSharedRow.laidByTextAt .later Tryd.pinned [.data, .data] true :=
  OpenClaim.laidByTextAt_later rfl rfl tie noOwnUnsafe
theorem tie2 : Tryd.prog.laidByTextLater [("loop.example/g00702/impl.prime", Rows.laid_loop_example_g00702_impl_prime)] [.data] true :=
  Program.laidByTextLater.sub seatTie1 ["loop.example/g00702/impl.prime"] (by kernel_rfl) (by kernel_rfl)
theorem fnExactPairOf_row_tie : Rows.fnExactPairOfRow.laidByTextAt .later Tryd.pinned [.data] true :=
  OpenClaim.laidByTextAt_later rfl rfl tie2 noOwnUnsafe
theorem fnExactNewDevice_row_tie : Rows.fnExactNewDeviceRow.laidByTextAt .later Tryd.pinned [.data] true :=
  OpenClaim.laidByTextAt_later rfl rfl tie2 noOwnUnsafe
theorem tie3 : Tryd.prog.laidByTextLater [("loop.example/g00702/impl.roundWords", Rows.laid_loop_example_g00702_impl_roundWords)] [.data] true :=
  Program.laidByTextLater.sub seatTie1 ["loop.example/g00702/impl.roundWords"] (by kernel_rfl) (by kernel_rfl)
theorem fnHmac_row_tie : Rows.fnHmacRow.laidByTextAt .later Tryd.pinned [.data] true :=
  OpenClaim.laidByTextAt_later rfl rfl tie3 noOwnUnsafe
theorem fnHkdf_row_tie : Rows.fnHkdfRow.laidByTextAt .later Tryd.pinned [.data] true :=
  OpenClaim.laidByTextAt_later rfl rfl tie3 noOwnUnsafe
theorem tie4 : Tryd.prog.laidByTextLater [("loop.example/g00702/impl.errWire", Rows.laid_loop_example_g00702_impl_errWire)] [.sentinel] true :=
  Program.laidByTextLater.sub seatTie1 ["loop.example/g00702/impl.errWire"] (by kernel_rfl) (by kernel_rfl)
theorem fnExactReadEnv_row_tie : Rows.fnExactReadEnvRow.laidByTextAt .later Tryd.pinned [.sentinel] true :=
  OpenClaim.laidByTextAt_later rfl rfl tie4 noOwnUnsafe
theorem fnMsgs_row_tie : Rows.fnMsgsRow.laidByTextAt .later Tryd.pinned [.sentinel] true :=
  OpenClaim.laidByTextAt_later rfl rfl tie4 noOwnUnsafe
theorem fnEnvs_row_tie : Rows.fnEnvsRow.laidByTextAt .later Tryd.pinned [.sentinel] true :=
  OpenClaim.laidByTextAt_later rfl rfl tie4 noOwnUnsafe
theorem fnExactStartAUpto_row_tie : Rows.fnExactStartAUptoRow.laidByTextAt .later Tryd.pinned [.data, .data] true :=
  OpenClaim.laidByTextAt_later rfl rfl tie noOwnUnsafe
theorem fnExactSharedAUpto_row_tie : Rows.fnExactSharedAUptoRow.laidByTextAt .later Tryd.pinned [.data, .data] true :=
  OpenClaim.laidByTextAt_later rfl rfl tie noOwnUnsafe
theorem fnExactSharedBUpto_row_tie : Rows.fnExactSharedBUptoRow.laidByTextAt .later Tryd.pinned [.data, .data] true :=
  OpenClaim.laidByTextAt_later rfl rfl tie noOwnUnsafe
theorem fnSharedUpto_row_tie : Rows.fnSharedUptoRow.laidByTextAt .later Tryd.pinned [.data, .data] true :=
  OpenClaim.laidByTextAt_later rfl rfl tie noOwnUnsafe
theorem fnExactPairOfUpto_row_tie : Rows.fnExactPairOfUptoRow.laidByTextAt .later Tryd.pinned [.data] true :=
  OpenClaim.laidByTextAt_later rfl rfl tie2 noOwnUnsafe
theorem fnHmacUpto_row_tie : Rows.fnHmacUptoRow.laidByTextAt .later Tryd.pinned [.data] true :=
  OpenClaim.laidByTextAt_later rfl rfl tie3 noOwnUnsafe
theorem fnHkdfUpto_row_tie : Rows.fnHkdfUptoRow.laidByTextAt .later Tryd.pinned [.data] true :=
  OpenClaim.laidByTextAt_later rfl rfl tie3 noOwnUnsafe
theorem fnExactReadEnvUpto_row_tie : Rows.fnExactReadEnvUptoRow.laidByTextAt .later Tryd.pinned [.sentinel] true :=
  OpenClaim.laidByTextAt_later rfl rfl tie4 noOwnUnsafe
theorem fnMsgsUpto_row_tie : Rows.fnMsgsUptoRow.laidByTextAt .later Tryd.pinned [.sentinel] true :=
  OpenClaim.laidByTextAt_later rfl rfl tie4 noOwnUnsafe
theorem fnEnvsUpto_row_tie : Rows.fnEnvsUptoRow.laidByTextAt .later Tryd.pinned [.sentinel] true :=
  OpenClaim.laidByTextAt_later rfl rfl tie4 noOwnUnsafe
theorem fnExactNewDeviceUpto_row_tie : Rows.fnExactNewDeviceUptoRow.laidByTextAt .later Tryd.pinned [.data] true :=
  OpenClaim.laidByTextAt_later rfl rfl tie2 noOwnUnsafe
end Go.Proofs.YtfbcmckepdjdkaaDoor
