/- The exact laws' helpers for sessions with skipped keys: cells, copies, sizes, comparison. -/
import Derived.Test.YtkglgficmealnaaSsP
import Derived.Test.YtkglgficmealnaaBx
namespace Go.Proofs.Ytkglgficmealnaa
open Go.RowKit Go.My Go.Lib
set_option linter.unusedVariables false

abbrev sesU (r o p t k : ByteArray) (n v : Int) (q : ByteArray) (m : Int) (u : Value) : Array Value := #[.string r, .string o, .string p, .string t, .string k, .int .i64 n, .int .i64 v, .string q, .int .i64 m, u]
abbrev SkipsAt (B : Nat) (v : Value) (l : List SkipT) (w : World) : Prop := RowL B 62 3 skipC v l w
theorem ses_cells {w : World} {g : Nat} {r o p t k : ByteArray} {n v : Int} {q : ByteArray} {m : Int} {u : Value} {T : TypeId} (h : w.heap[g]? = some (.cells (sesU r o p t k n v q m u) T (0, 0))) :
    (w.cell? ⟨g, 0, none⟩ = some (.string r) ∧ w.cell? ⟨g, 1, none⟩ = some (.string o) ∧ w.cell? ⟨g, 2, none⟩ = some (.string p) ∧ w.cell? ⟨g, 3, none⟩ = some (.string t) ∧ w.cell? ⟨g, 4, none⟩ = some (.string k) ∧ w.cell? ⟨g, 5, none⟩ = some (.int .i64 n) ∧ w.cell? ⟨g, 6, none⟩ = some (.int .i64 v) ∧ w.cell? ⟨g, 7, none⟩ = some (.string q) ∧ w.cell? ⟨g, 8, none⟩ = some (.int .i64 m) ∧ w.cell? ⟨g, 9, none⟩ = some u) ∧ ∀ j, w.frozen? ⟨g, j, none⟩ = false :=
  ⟨⟨cell_of_row w g 0 _ T (0, 0) h, cell_of_row w g 1 _ T (0, 0) h, cell_of_row w g 2 _ T (0, 0) h, cell_of_row w g 3 _ T (0, 0) h, cell_of_row w g 4 _ T (0, 0) h, cell_of_row w g 5 _ T (0, 0) h, cell_of_row w g 6 _ T (0, 0) h, cell_of_row w g 7 _ T (0, 0) h, cell_of_row w g 8 _ T (0, 0) h, cell_of_row w g 9 _ T (0, 0) h⟩, fun j => frozen_of_row w g j _ T h⟩

end Go.Proofs.Ytkglgficmealnaa
