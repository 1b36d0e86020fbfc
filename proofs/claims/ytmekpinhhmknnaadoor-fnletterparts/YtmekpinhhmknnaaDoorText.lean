/- A drawn text. -/
import Derived.Test.YtmekpinhhmknnaaDoorRd
import Derived.Deep.OwnRows
import Derived.Lib.ConvBytes
namespace Go.Proofs.YtmekpinhhmknnaaDoor
open Go.RowKit Go.My Go.Lib
set_option linter.unusedVariables false

theorem info_u8t : (Tryd.prog.info? 5).map (fun i => (i.zero, i.size, i.bytes)) = some (some (.int .u8 0), 1, 1) := by kernel_rfl
/-- 'string(make([]byte, n))', the two apart: the row that was made reads as noughts in every world that keeps its block. -/
theorem conv_madeT (W w' : World) (n : Nat) (hn : n ≤ 1048576) (h : w'.heap[W.heap.size]? = some (.cells (madeCells #[.int .u8 0] n) 5 (0, 0))) :
    (convert 51 9 (.slice (some ⟨W.heap.size, 0, none⟩) n n)).run Tryd.prog w' = .ok (.string (str (List.replicate n 0))) w' := by
  refine run_convert_own (P := Tryd.prog) w' 51 9 5 W.heap.size n _ _ Tryd.underlying51 Tryd.underlying5 Tryd.underlying9 ?_
  have hs : (madeCells #[Value.int .u8 0] n).size = n := by rw [← Array.length_toList, toList_madeCells_one, List.length_replicate]
  refine ⟨by rw [cellsOf_length, List.length_replicate]; omega, .inr ⟨W.heap.size, n, _, rfl, Nat.le_refl _, h, Nat.le_refl _, by unfold maxLen; omega, by rw [hs]; omega, ?_⟩⟩
  rw [toList_madeCells_one, ← fill_start]
  exact List.take_of_length_le (by rw [List.length_replicate]; omega)

end Go.Proofs.YtmekpinhhmknnaaDoor
