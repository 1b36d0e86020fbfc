/-
  DERIVED. GIVEN WITH THE SEED: THE PROGRAM's TIES (one call each: nine closed facts by the kernel) AND EACH ROW's TIE, after the 31st guide's Derived/Test/Toyas{Tie, Card}.lean. No idea stands in it: it is a product of the set-up. Laid BY PROGRAM, IN A SANDBOX (cutbox-door.mjs). By AI agents, Wed Nov 11 2026. No macro, syntax, notation, axiom, sorry.
-/
import Derived.Test.YtgjnoleejbkddaaDoorRows
import Derived.LaidByTextLater
import Derived.SevenTiedAt
import Derived.LaidSub
import Derived.LaidOnce
namespace Go.Proofs.YtgjnoleejbkddaaDoor
open Go
set_option maxRecDepth 100000
theorem seatTie1 : Tryd.prog.laidByTextLater [("loop.example/g00702/impl.roundWords", Rows.laid_loop_example_g00702_impl_roundWords), ("loop.example/g00702/impl.errSealForm", Rows.laid_loop_example_g00702_impl_errSealForm), ("loop.example/g00702/impl.errSealTag", Rows.laid_loop_example_g00702_impl_errSealTag)] [.data, .sentinel, .sentinel] true :=
  Program.laidByTextLater_by_one 52 8 65 (by kernel_rfl) (by kernel_rfl) (by kernel_rfl) (by kernel_rfl) (by kernel_rfl) (by kernel_rfl) (fun _ _ => by kernel_rfl)
theorem noOwnUnsafe : Tryd.pinned.checked.prog.headLifts.contains "ownunsafe" = false := by kernel_rfl
theorem tie : Tryd.prog.laidByTextLater [("loop.example/g00702/impl.roundWords", Rows.laid_loop_example_g00702_impl_roundWords), ("loop.example/g00702/impl.errSealForm", Rows.laid_loop_example_g00702_impl_errSealForm), ("loop.example/g00702/impl.errSealTag", Rows.laid_loop_example_g00702_impl_errSealTag)] [.data, .sentinel, .sentinel] true :=
  Program.laidByTextLater.sub seatTie1 ["loop.example/g00702/impl.roundWords", "loop.example/g00702/impl.errSealForm", "loop.example/g00702/impl.errSealTag"] (by kernel_rfl) (by kernel_rfl)
theorem fnExactOpenSeal_row_tie : Rows.fnExactOpenSealRow.laidByTextAt .later Tryd.pinned [.data, .sentinel, .sentinel] true :=
  OpenClaim.laidByTextAt_later rfl rfl tie noOwnUnsafe
theorem fnSeal_row_tie : Rows.fnSealRow.laidByTextAt .later Tryd.pinned [.data, .sentinel, .sentinel] true :=
  OpenClaim.laidByTextAt_later rfl rfl tie noOwnUnsafe
theorem fnExactOpenSealUpto_row_tie : Rows.fnExactOpenSealUptoRow.laidByTextAt .later Tryd.pinned [.data, .sentinel, .sentinel] true :=
  OpenClaim.laidByTextAt_later rfl rfl tie noOwnUnsafe
theorem fnSealUpto_row_tie : Rows.fnSealUptoRow.laidByTextAt .later Tryd.pinned [.data, .sentinel, .sentinel] true :=
  OpenClaim.laidByTextAt_later rfl rfl tie noOwnUnsafe
end Go.Proofs.YtgjnoleejbkddaaDoor
