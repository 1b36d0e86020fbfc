/- A field number among the cells of a block: what a load of it yields, and that it stays. -/
import Derived.Test.YtdhfddeghnoecaaDoorFld5
namespace Go.Proofs.YtdhfddeghnoecaaDoor
open Go.RowKit Go.My Go.Lib
set_option linter.unusedVariables false

/-- The words of n lie in block g from offset o on. -/
def FldAt (g o n : Nat) (w : World) : Prop := g < w.heap.size ∧ w.rangeAt g o (fldA n).toList
theorem FldAt.lt {g o n : Nat} {w : World} (h : FldAt g o n w) : g < w.heap.size := h.1
theorem FldAt.below {g o n : Nat} {V W : World} (hb : Below V.heap.size V W) (h : FldAt g o n V) : FldAt g o n W :=
  ⟨Nat.lt_of_lt_of_le h.1 hb.size, fun j v hv => (hb.cell (p := ⟨g, o + j, none⟩) h.1).trans (h.2 j v hv)⟩
theorem FldAt.drew {g o n : Nat} {V : World} (h : FldAt g o n V) : FldAt g o n V.drew := h.below (Below.refl _ _).drew
theorem FldAt.past {g o n : Nat} {V : World} (h : FldAt g o n V) (ob : Obj) : FldAt g o n (V.alloc ob) := h.below ((Below.refl _ _).alloc (Nat.le_refl _) _)
theorem FldAt.ld {g o n : Nat} {w : World} (h : FldAt g o n w) : (Instr.loadAt 60 (.pointer (some ⟨g, o, none⟩))).run Tryd.prog w = .ok (.agg (fldA n)) w := by
  have := run_loadAt_mid (P := Tryd.prog) w g o 60 (fldA n).toList (.array 4 58) h.2 Tryd.underlying60 rfl (by rw [Array.length_toList]; exact fszN n)
  rw [Array.toArray_toList] at this
  exact this
def ptA (x z : Nat) : Array Value := fldA x ++ fldA z
theorem ptA_size (x z : Nat) : (ptA x z).size = 8 := by rw [ptA, Array.size_append, fldA, fldA, rwA_size, rwA_size]
theorem FldAt.box_x (w : World) (x z T : Nat) : FldAt w.heap.size 0 x (w.alloc (.cells (ptA x z) T)) :=
  ⟨by simp, fun j v hv => by
    rw [Nat.zero_add, cell_of_row _ _ _ _ _ _ (heap_alloc_new w _)]
    rw [ptA, Array.getElem?_append_left (by have := (List.getElem?_eq_some_iff.1 hv).1; simpa using this)]
    simpa using hv⟩
theorem FldAt.box_z (w : World) (x z T : Nat) : FldAt w.heap.size 4 z (w.alloc (.cells (ptA x z) T)) :=
  ⟨by simp, fun j v hv => by
    rw [cell_of_row _ _ _ _ _ _ (heap_alloc_new w _)]
    rw [ptA, Array.getElem?_append_right (by rw [fldA, rwA_size]; omega)]
    rw [show 4 + j - (fldA x).size = j by rw [fldA, rwA_size]; omega]
    simpa using hv⟩
theorem FldAt.box (w : World) (x T : Nat) : FldAt w.heap.size 0 x (w.alloc (.cells (fldA x) T)) :=
  ⟨by simp, fun j v hv => by
    rw [Nat.zero_add, cell_of_row _ _ _ _ _ _ (heap_alloc_new w _)]
    simpa using hv⟩

end Go.Proofs.YtdhfddeghnoecaaDoor
