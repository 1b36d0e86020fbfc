/-
  DERIVED. GIVEN WITH THE SEED: THE PROGRAM's TIES (one call each: nine closed facts by the kernel) AND EACH ROW's TIE, after the 31st guide's Derived/Test/Toyas{Tie, Card}.lean. No idea stands in it: it is a product of the set-up. Laid BY PROGRAM, IN A SANDBOX (cutbox-door.mjs). By AI agents, Wed Nov 11 2026. No macro, syntax, notation, axiom, sorry.
-/
import Derived.Test.YtdhfddeghnoecaaDoorRows
import Derived.LaidByTextLater
import Derived.SevenTiedAt
import Derived.LaidSub
import Derived.LaidOnce
namespace Go.Proofs.YtdhfddeghnoecaaDoor
open Go
set_option maxRecDepth 100000
theorem seatTie1 : Tryd.prog.laidByTextLater [("loop.example/g00702/impl.roundWords", Rows.laid_loop_example_g00702_impl_roundWords), ("loop.example/g00702/impl.prime", Rows.laid_loop_example_g00702_impl_prime)] [.data, .data] true :=
  Program.laidByTextLater_by_one 19 8 65 (by kernel_rfl) (by kernel_rfl) (by kernel_rfl) (by kernel_rfl) (by kernel_rfl) (by kernel_rfl) (fun _ _ => by kernel_rfl)
theorem noOwnUnsafe : Tryd.pinned.checked.prog.headLifts.contains "ownunsafe" = false := by kernel_rfl
theorem tie : Tryd.prog.laidByTextLater [("loop.example/g00702/impl.roundWords", Rows.laid_loop_example_g00702_impl_roundWords), ("loop.example/g00702/impl.prime", Rows.laid_loop_example_g00702_impl_prime)] [.data, .data] true :=
  Program.laidByTextLater.sub seatTie1 ["loop.example/g00702/impl.roundWords", "loop.example/g00702/impl.prime"] (by kernel_rfl) (by kernel_rfl)
theorem fnExactStartA_row_tie : Rows.fnExactStartARow.laidByTextAt .later Tryd.pinned [.data, .data] true :=
  OpenClaim.laidByTextAt_later rfl rfl tie noOwnUnsafe
theorem fnExactSharedA_row_tie : Rows.fnExactSharedARow.laidByTextAt .later Tryd.pinned [.data, .data] true :=
  OpenClaim.laidByTextAt_later rfl rfl tie noOwnUnsafe
theorem fnExactSharedB_row_tie : Rows.fnExactSharedBRow.laidByTextAt .later Tryd.pinned [.data, .data] true :=
  OpenClaim.laidByTextAt_later rfl rfl tie noOwnUnsafe
theorem tie2 : Tryd.prog.laidByTextLater [("loop.example/g00702/impl.prime", Rows.laid_loop_example_g00702_impl_prime)] [.data] true :=
  Program.laidByTextLater.sub seatTie1 ["loop.example/g00702/impl.prime"] (by kernel_rfl) (by kernel_rfl)
theorem fnExactStartB_row_tie : Rows.fnExactStartBRow.laidByTextAt .later Tryd.pinned [.data] true :=
  OpenClaim.laidByTextAt_later rfl rfl tie2 noOwnUnsafe
theorem fnExactStartAUpto_row_tie : Rows.fnExactStartAUptoRow.laidByTextAt .later Tryd.pinned [.data, .data] true :=
  OpenClaim.laidByTextAt_later rfl rfl tie noOwnUnsafe
theorem fnExactStartBUpto_row_tie : Rows.fnExactStartBUptoRow.laidByTextAt .later Tryd.pinned [.data] true :=
  OpenClaim.laidByTextAt_later rfl rfl tie2 noOwnUnsafe
theorem fnExactSharedAUpto_row_tie : Rows.fnExactSharedAUptoRow.laidByTextAt .later Tryd.pinned [.data, .data] true :=
  OpenClaim.laidByTextAt_later rfl rfl tie noOwnUnsafe
theorem fnExactSharedBUpto_row_tie : Rows.fnExactSharedBUptoRow.laidByTextAt .later Tryd.pinned [.data, .data] true :=
  OpenClaim.laidByTextAt_later rfl rfl tie noOwnUnsafe
end Go.Proofs.YtdhfddeghnoecaaDoor
