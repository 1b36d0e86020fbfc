/- Blocks that a function makes for itself: what stands behind others that are made, cells of small rows. -/
import Derived.Test.YtkglgficmealnaaRowA
import Derived.Test.YtkglgficmealnaaRowB
import Derived.Test.YtkglgficmealnaaRowC
namespace Go.Proofs.Ytkglgficmealnaa
open Go.RowKit Go.My Go.Lib
set_option linter.unusedVariables false

/-- The cells of a block, one by one. -/
theorem dk_cells {w : World} {k : Nat} {x y z : Value} {T : TypeId} (h : w.heap[k]? = some (.cells #[x, y, z] T (0, 0))) : (w.cell? ⟨k, 0, none⟩ = some x ∧ w.cell? ⟨k, 1, none⟩ = some y ∧ w.cell? ⟨k, 2, none⟩ = some z) ∧ ∀ j, w.frozen? ⟨k, j, none⟩ = false :=
  ⟨⟨(cell_of_row w k 0 _ T (0, 0) h), (cell_of_row w k 1 _ T (0, 0) h), (cell_of_row w k 2 _ T (0, 0) h)⟩, fun j => frozen_of_row w k j _ T h⟩

/-- Three blocks were made, then others: what stands. -/
theorem boxes3 (w : World) (o1 o2 o3 : Obj) (w4 : World) (hb : Below (((w.alloc o1).alloc o2).alloc o3).heap.size (((w.alloc o1).alloc o2).alloc o3) w4) :
    Below w.heap.size w w4 ∧ w4.heap[w.heap.size]? = some o1 ∧ w4.heap[w.heap.size + 1]? = some o2 ∧ w4.heap[w.heap.size + 1 + 1]? = some o3 ∧ w.heap.size + 1 + 1 + 1 ≤ w4.heap.size := by
  have s1 : (w.alloc o1).heap.size = w.heap.size + 1 := by simp
  have s2 : ((w.alloc o1).alloc o2).heap.size = w.heap.size + 1 + 1 := by simp
  have s3 : (((w.alloc o1).alloc o2).alloc o3).heap.size = w.heap.size + 1 + 1 + 1 := by simp
  have h0 : Below w.heap.size w (((w.alloc o1).alloc o2).alloc o3) := (((Below.refl _ _).alloc (Nat.le_refl _) _).alloc (by rw [s1]; omega) _).alloc (by rw [s2]; omega) _
  refine ⟨h0.trans (hb.mono h0.size), ?_, ?_, ?_, by rw [← s3]; exact hb.size⟩
  · rw [hb.block _ (by rw [s3]; omega), Below.heap_alloc _ _ _ (by rw [s2]; omega), Below.heap_alloc _ _ _ (by rw [s1]; omega)]
    exact heap_alloc_new w o1
  · rw [hb.block _ (by rw [s3]; omega), Below.heap_alloc _ _ _ (by rw [s2]; omega), ← s1]
    exact heap_alloc_new _ o2
  · rw [hb.block _ (by rw [s3]; omega), ← s2]
    exact heap_alloc_new _ o3
theorem boxes2 (w : World) (o1 o2 : Obj) (w4 : World) (hb : Below ((w.alloc o1).alloc o2).heap.size ((w.alloc o1).alloc o2) w4) :
    Below w.heap.size w w4 ∧ w4.heap[w.heap.size]? = some o1 ∧ w4.heap[w.heap.size + 1]? = some o2 := by
  have s1 : (w.alloc o1).heap.size = w.heap.size + 1 := by simp
  have s2 : ((w.alloc o1).alloc o2).heap.size = w.heap.size + 1 + 1 := by simp
  have h0 : Below w.heap.size w ((w.alloc o1).alloc o2) := ((Below.refl _ _).alloc (Nat.le_refl _) _).alloc (by rw [s1]; omega) _
  refine ⟨h0.trans (hb.mono h0.size), ?_, ?_⟩
  · rw [hb.block _ (by rw [s2]; omega), Below.heap_alloc _ _ _ (by rw [s1]; omega)]
    exact heap_alloc_new w o1
  · rw [hb.block _ (by rw [s2]; omega), ← s1]
    exact heap_alloc_new _ o2
theorem boxes1 (w : World) (o1 : Obj) (w4 : World) (hb : Below (w.alloc o1).heap.size (w.alloc o1) w4) : Below w.heap.size w w4 ∧ w4.heap[w.heap.size]? = some o1 := by
  have s1 : (w.alloc o1).heap.size = w.heap.size + 1 := by simp
  have h0 : Below w.heap.size w (w.alloc o1) := (Below.refl _ _).alloc (Nat.le_refl _) _
  exact ⟨h0.trans (hb.mono h0.size), (hb.block _ (by rw [s1]; omega)).trans (heap_alloc_new w o1)⟩
theorem row_ne {α : Type} {B e c k : Nat} {f : α → List Value} {v : Value} {l : List α} {w : World} (h : RowL B e c f v l w) (hk : k < B) : v.ownBlock = none ∨ v.ownBlock ≠ some k := by
  cases hv : v.ownBlock with
  | none => exact .inl rfl
  | some q => exact .inr (fun c => by cases c; have := (World.ownsRow.lt h k hv).1; omega)

/-- A cell of the third block is stored, then others are made: what stands. -/
theorem dk_step {w W W' : World} {o1 o2 : Obj} {cs : Array Value} {T : TypeId} (j : Nat) (u : Value) (hB : Below w.heap.size w W) (h1 : W.heap[w.heap.size]? = some o1) (h2 : W.heap[w.heap.size + 1]? = some o2) (h3 : W.heap[w.heap.size + 1 + 1]? = some (.cells cs T (0, 0)))
    (hb : Below (W.setCell ⟨w.heap.size + 1 + 1, j, none⟩ u).heap.size (W.setCell ⟨w.heap.size + 1 + 1, j, none⟩ u) W') :
    Below w.heap.size w W' ∧ W'.heap[w.heap.size]? = some o1 ∧ W'.heap[w.heap.size + 1]? = some o2 ∧ W'.heap[w.heap.size + 1 + 1]? = some (.cells (cs.setIfInBounds j u) T (0, 0)) := by
  have hs : (W.setCell ⟨w.heap.size + 1 + 1, j, none⟩ u).heap.size = W.heap.size := by simp [World.setCell]
  have l3 := (Array.getElem?_eq_some_iff.1 h3).1
  have hS : Below w.heap.size w (W.setCell ⟨w.heap.size + 1 + 1, j, none⟩ u) := hB.setCell (by show w.heap.size ≤ w.heap.size + 1 + 1; omega) _
  refine ⟨hS.trans (hb.mono hS.size), ?_, ?_, ?_⟩
  · rw [hb.block _ (by rw [hs]; omega), heap_setCell_other W ⟨w.heap.size + 1 + 1, j, none⟩ w.heap.size u (by show w.heap.size ≠ w.heap.size + 1 + 1; omega)]; exact h1
  · rw [hb.block _ (by rw [hs]; omega), heap_setCell_other W ⟨w.heap.size + 1 + 1, j, none⟩ (w.heap.size + 1) u (by show w.heap.size + 1 ≠ w.heap.size + 1 + 1; omega)]; exact h2
  · rw [hb.block _ (by rw [hs]; omega)]; exact heap_setCell_same W (w.heap.size + 1 + 1) j cs T u h3
theorem row_step {α : Type} {B e c k j : Nat} {f : α → List Value} {v u : Value} {l : List α} {W W' : World} (h : RowL B e c f v l W) (hk : k < B) (hb : Below (W.setCell ⟨k, j, none⟩ u).heap.size (W.setCell ⟨k, j, none⟩ u) W') : RowL B e c f v l W' :=
  (h.kept (grw_set (grw_refl W (some k)) j u) (row_ne h hk)).below hb

theorem row_cell {α : Type} {B e c k : Nat} {f : α → List Value} {v : Value} {l : List α} {W : World} (h : RowL B e c f v l W) (hk : k < B) (j : Nat) (u : Value) : RowL B e c f v l (W.setCell ⟨k, j, none⟩ u) :=
  h.kept (grw_set (grw_refl W (some k)) j u) (row_ne h hk)

end Go.Proofs.Ytkglgficmealnaa
