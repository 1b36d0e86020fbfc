/- The exact laws' helpers for disks. -/
import Derived.Test.YtepefbfmjjnamaaRwFile
import Derived.Test.YtepefbfmjjnamaaRwDOp
namespace Go.Proofs.Ytepefbfmjjnamaa
open Go.RowKit Go.My Go.Lib
set_option linter.unusedVariables false

structure DiskT where
  live : List FileT
  safe : List FileT
  ops : List DOpT

abbrev FilesAt (B : Nat) (v : Value) (l : List FileT) (w : World) : Prop := RowL B 88 2 fileC v l w
abbrev OpsAt (B : Nat) (v : Value) (l : List DOpT) (w : World) : Prop := RowL B 36 4 dOpC v l w
/-- The cells of a block, one by one. -/
theorem dk_cells {w : World} {k : Nat} {x y z : Value} {T : TypeId} (h : w.heap[k]? = some (.cells #[x, y, z] T (0, 0))) : (w.cell? ⟨k, 0, none⟩ = some x ∧ w.cell? ⟨k, 1, none⟩ = some y ∧ w.cell? ⟨k, 2, none⟩ = some z) ∧ ∀ j, w.frozen? ⟨k, j, none⟩ = false :=
  ⟨⟨(cell_of_row w k 0 _ T (0, 0) h), (cell_of_row w k 1 _ T (0, 0) h), (cell_of_row w k 2 _ T (0, 0) h)⟩, fun j => frozen_of_row w k j _ T h⟩

/-- Three blocks were made, then others: what stands. -/
theorem boxes3 (w : World) (o1 o2 o3 : Obj) (w4 : World) (hb : Below (((w.alloc o1).alloc o2).alloc o3).heap.size (((w.alloc o1).alloc o2).alloc o3) w4) :
    Below w.heap.size w w4 ∧ w4.heap[w.heap.size]? = some o1 ∧ w4.heap[w.heap.size + 1]? = some o2 ∧ w4.heap[w.heap.size + 1 + 1]? = some o3 ∧ w.heap.size + 1 + 1 + 1 ≤ w4.heap.size := by
  have s1 : (w.alloc o1).heap.size = w.heap.size + 1 := by simp
  have s2 : ((w.alloc o1).alloc o2).heap.size = w.heap.size + 1 + 1 := by simp
  have s3 : (((w.alloc o1).alloc o2).alloc o3).heap.size = w.heap.size + 1 + 1 + 1 := by simp
  have h0 : Below w.heap.size w (((w.alloc o1).alloc o2).alloc o3) := (((Below.refl _ _).alloc (Nat.le_refl _) _).alloc (by rw [s1]; omega) _).alloc (by rw [s2]; omega) _
  refine ⟨h0.trans (hb.mono h0.size), ?_, ?_, ?_, by rw [← s3]; exact hb.size⟩
  · rw [hb.block _ (by rw [s3]; omega), Below.heap_alloc _ _ _ (by rw [s2]; omega), Below.heap_alloc _ _ _ (by rw [s1]; omega)]
    exact heap_alloc_new w o1
  · rw [hb.block _ (by rw [s3]; omega), Below.heap_alloc _ _ _ (by rw [s2]; omega), ← s1]
    exact heap_alloc_new _ o2
  · rw [hb.block _ (by rw [s3]; omega), ← s2]
    exact heap_alloc_new _ o3
theorem boxes2 (w : World) (o1 o2 : Obj) (w4 : World) (hb : Below ((w.alloc o1).alloc o2).heap.size ((w.alloc o1).alloc o2) w4) :
    Below w.heap.size w w4 ∧ w4.heap[w.heap.size]? = some o1 ∧ w4.heap[w.heap.size + 1]? = some o2 := by
  have s1 : (w.alloc o1).heap.size = w.heap.size + 1 := by simp
  have s2 : ((w.alloc o1).alloc o2).heap.size = w.heap.size + 1 + 1 := by simp
  have h0 : Below w.heap.size w ((w.alloc o1).alloc o2) := ((Below.refl _ _).alloc (Nat.le_refl _) _).alloc (by rw [s1]; omega) _
  refine ⟨h0.trans (hb.mono h0.size), ?_, ?_⟩
  · rw [hb.block _ (by rw [s2]; omega), Below.heap_alloc _ _ _ (by rw [s1]; omega)]
    exact heap_alloc_new w o1
  · rw [hb.block _ (by rw [s2]; omega), ← s1]
    exact heap_alloc_new _ o2
theorem boxes1 (w : World) (o1 : Obj) (w4 : World) (hb : Below (w.alloc o1).heap.size (w.alloc o1) w4) : Below w.heap.size w w4 ∧ w4.heap[w.heap.size]? = some o1 := by
  have s1 : (w.alloc o1).heap.size = w.heap.size + 1 := by simp
  have h0 : Below w.heap.size w (w.alloc o1) := (Below.refl _ _).alloc (Nat.le_refl _) _
  exact ⟨h0.trans (hb.mono h0.size), (hb.block _ (by rw [s1]; omega)).trans (heap_alloc_new w o1)⟩
theorem row_ne {α : Type} {B e c k : Nat} {f : α → List Value} {v : Value} {l : List α} {w : World} (h : RowL B e c f v l w) (hk : k < B) : v.ownBlock = none ∨ v.ownBlock ≠ some k := by
  cases hv : v.ownBlock with
  | none => exact .inl rfl
  | some q => exact .inr (fun c => by cases c; have := (World.ownsRow.lt h k hv).1; omega)

/-- A cell of the third block is stored, then others are made: what stands. -/
theorem dk_step {w W W' : World} {o1 o2 : Obj} {cs : Array Value} {T : TypeId} (j : Nat) (u : Value) (hB : Below w.heap.size w W) (h1 : W.heap[w.heap.size]? = some o1) (h2 : W.heap[w.heap.size + 1]? = some o2) (h3 : W.heap[w.heap.size + 1 + 1]? = some (.cells cs T (0, 0)))
    (hb : Below (W.setCell ⟨w.heap.size + 1 + 1, j, none⟩ u).heap.size (W.setCell ⟨w.heap.size + 1 + 1, j, none⟩ u) W') :
    Below w.heap.size w W' ∧ W'.heap[w.heap.size]? = some o1 ∧ W'.heap[w.heap.size + 1]? = some o2 ∧ W'.heap[w.heap.size + 1 + 1]? = some (.cells (cs.setIfInBounds j u) T (0, 0)) := by
  have hs : (W.setCell ⟨w.heap.size + 1 + 1, j, none⟩ u).heap.size = W.heap.size := by simp [World.setCell]
  have l3 := (Array.getElem?_eq_some_iff.1 h3).1
  have hS : Below w.heap.size w (W.setCell ⟨w.heap.size + 1 + 1, j, none⟩ u) := hB.setCell (by show w.heap.size ≤ w.heap.size + 1 + 1; omega) _
  refine ⟨hS.trans (hb.mono hS.size), ?_, ?_, ?_⟩
  · rw [hb.block _ (by rw [hs]; omega), heap_setCell_other W ⟨w.heap.size + 1 + 1, j, none⟩ w.heap.size u (by show w.heap.size ≠ w.heap.size + 1 + 1; omega)]; exact h1
  · rw [hb.block _ (by rw [hs]; omega), heap_setCell_other W ⟨w.heap.size + 1 + 1, j, none⟩ (w.heap.size + 1) u (by show w.heap.size + 1 ≠ w.heap.size + 1 + 1; omega)]; exact h2
  · rw [hb.block _ (by rw [hs]; omega)]; exact heap_setCell_same W (w.heap.size + 1 + 1) j cs T u h3
theorem row_step {α : Type} {B e c k j : Nat} {f : α → List Value} {v u : Value} {l : List α} {W W' : World} (h : RowL B e c f v l W) (hk : k < B) (hb : Below (W.setCell ⟨k, j, none⟩ u).heap.size (W.setCell ⟨k, j, none⟩ u) W') : RowL B e c f v l W' :=
  (h.kept (grw_set (grw_refl W (some k)) j u) (row_ne h hk)).below hb

theorem row_cell {α : Type} {B e c k : Nat} {f : α → List Value} {v : Value} {l : List α} {W : World} (h : RowL B e c f v l W) (hk : k < B) (j : Nat) (u : Value) : RowL B e c f v l (W.setCell ⟨k, j, none⟩ u) :=
  h.kept (grw_set (grw_refl W (some k)) j u) (row_ne h hk)

set_option maxHeartbeats 1000000 in
theorem toDisk_any (v1 v2 v3 : Value) (d : DiskT) (w : World) (h1 : ArgL 2 fileC v1 d.live w) (h2 : ArgL 2 fileC v2 d.safe w) (h3 : ArgL 4 dOpC v3 d.ops w) (l1 : d.live.length ≤ 1048576) (l2 : d.safe.length ≤ 1048576) (l3 : d.ops.length ≤ 1048576) :
    Calls Try.prog 36 #[.agg #[v1, v2, v3]] w fun e w' => ∃ u1 u2 u3, e = .returned (.agg #[u1, u2, u3]) ∧ FilesAt w.heap.size u1 d.live w' ∧ FilesAt w.heap.size u2 d.safe w' ∧ OpsAt w.heap.size u3 d.ops w' ∧ (u1.ownBlock = none ∨ u1.ownBlock ≠ u2.ownBlock) ∧ Below w.heap.size w w' := by
  have H1 := Lib.hid h1
  have H2 := Lib.hid h2
  have H3 := Lib.hid h3
  clear h1 h2 h3
  have C1 := Lib.hid (fun W (hW : Below w.heap.size w W) => toFileS_any v1 d.live W (H1.out.below hW) l1)
  have C2 := Lib.hid (fun W (hW : Below w.heap.size w W) => toFileS_any v2 d.safe W (H2.out.below hW) l2)
  have C3 := Lib.hid (fun W (hW : Below w.heap.size w W) => toDOpS_any v3 d.ops W (H3.out.below hW) l3)
  clear H1 H2 H3 l1 l2 l3
  go_enter Try.func36, Try.ntmps36
  go_wp2_with fail
  have hb0 : Below w.heap.size w (((w.alloc (.cells #[v1, v2, v3] 56)).alloc (.cells #[.slice none 0 0, .slice none 0 0, .slice none 0 0] 27)).alloc (.cells #[.slice none 0 0, .slice none 0 0, .slice none 0 0] 27)) := (boxes3 w _ _ _ _ (Below.refl _ _)).1
  refine (C1.out _ (by exact hb0)).mono ?_
  rintro e w4 ⟨u1, rfl, r1, hb4⟩
  obtain ⟨hB4, bx4, rs4, ot4, _⟩ := boxes3 w _ _ _ _ hb4
  have r1' : RowL (w.heap.size + 1 + 1 + 1) 88 2 fileC u1 d.live w4 := by simpa using r1
  obtain ⟨p1, cap1, rfl, _, _, _⟩ := r1'.open
  clear r1 hb4 hb0
  obtain ⟨⟨b0, b1, b2⟩, _⟩ := dk_cells bx4
  obtain ⟨⟨o0, o1, o2⟩, of⟩ := dk_cells ot4
  have of0 := of 0
  clear of
  have hB5 : Below w.heap.size w (w4.setCell ⟨w.heap.size + 1 + 1, 0, none⟩ (.slice p1 d.live.length cap1)) := hB4.setCell (by simp; omega) _
  have HS := Lib.hid (And.intro bx4 (And.intro rs4 (And.intro ot4 r1')))
  have HB4 := Lib.hid hB4
  clear bx4 rs4 ot4 r1' hB4
  go_wp2_with fail
  refine (C2.out _ (by exact hB5)).mono ?_
  rintro e w6 ⟨u2, rfl, r2, hb6⟩
  obtain ⟨hB6, bx6, rs6, ot6⟩ := dk_step 0 _ HB4.out HS.out.1 HS.out.2.1 HS.out.2.2.1 hb6
  have q1 := row_step HS.out.2.2.2 (by omega) hb6
  have ap := row_apart HS.out.2.2.2 r2 (by simp [World.setCell])
  have r2' : RowL (w.heap.size + 1 + 1 + 1) 88 2 fileC u2 d.safe w6 := r2.mono (by have := (Array.getElem?_eq_some_iff.1 HS.out.2.2.1).1; simp [World.setCell]; omega)
  obtain ⟨p2, cap2, rfl, _, _, _⟩ := r2'.open
  clear r2 hb6 hB5 HS HB4 b0 b1 b2 o0 o1 o2 of0
  obtain ⟨⟨b0, b1, b2⟩, _⟩ := dk_cells bx6
  obtain ⟨⟨o0, o1, o2⟩, of⟩ := dk_cells (show w6.heap[w.heap.size + 1 + 1]? = some (.cells #[.slice p1 d.live.length cap1, .slice none 0 0, .slice none 0 0] 27 (0, 0)) from ot6)
  have of1 := of 1
  clear of
  have hB7 : Below w.heap.size w (w6.setCell ⟨w.heap.size + 1 + 1, 1, none⟩ (.slice p2 d.safe.length cap2)) := hB6.setCell (by simp; omega) _
  have HS := Lib.hid (And.intro bx6 (And.intro rs6 (And.intro ot6 (And.intro q1 (And.intro r2' ap)))))
  have HB6 := Lib.hid hB6
  clear bx6 rs6 ot6 r2' hB6 q1 ap
  go_wp2_with fail
  refine (C3.out _ (by exact hB7)).mono ?_
  rintro e w8 ⟨u3, rfl, r3, hb8⟩
  obtain ⟨hB8, bx8, rs8, ot8⟩ := dk_step 1 _ HB6.out HS.out.1 HS.out.2.1 HS.out.2.2.1 hb8
  have q1 := row_step HS.out.2.2.2.1 (by omega) hb8
  have q2 := row_step HS.out.2.2.2.2.1 (by omega) hb8
  have r3' : RowL (w.heap.size + 1 + 1 + 1) 36 4 dOpC u3 d.ops w8 := r3.mono (by have := (Array.getElem?_eq_some_iff.1 HS.out.2.2.1).1; simp [World.setCell]; omega)
  obtain ⟨p3, cap3, rfl, _, _, _⟩ := r3'.open
  have HAP := Lib.hid HS.out.2.2.2.2.2
  clear r3 hb8 hB7 HS HB6 b0 b1 b2 o0 o1 o2 of1
  obtain ⟨⟨o0, o1, o2⟩, of⟩ := dk_cells (show w8.heap[w.heap.size + 1 + 1]? = some (.cells #[.slice p1 d.live.length cap1, .slice p2 d.safe.length cap2, .slice none 0 0] 27 (0, 0)) from ot8)
  obtain ⟨⟨s0, s1, s2⟩, sf⟩ := dk_cells rs8
  have of2 := of 2
  have sf0 := sf 0
  have sf1 := sf 1
  have sf2 := sf 2
  clear of sf
  have HR := Lib.hid (And.intro q1 (And.intro q2 r3'))
  have HB8 := Lib.hid hB8
  have HRS := Lib.hid rs8
  clear bx8 rs8 ot8 q1 q2 r3' hB8
  go_wp2
  have K : ∀ {α : Type} {e c : Nat} {f : α → List Value} {v : Value} {l : List α} (x y z t : Value), RowL (w.heap.size + 1 + 1 + 1) e c f v l w8 → RowL w.heap.size e c f v l ((((w8.setCell ⟨w.heap.size + 1 + 1, 2, none⟩ x).setCell ⟨w.heap.size + 1, 0, none⟩ y).setCell ⟨w.heap.size + 1, 1, none⟩ z).setCell ⟨w.heap.size + 1, 2, none⟩ t) :=
    fun x y z t h => (row_cell (row_cell (row_cell (row_cell h (by omega) 2 x) (by omega) 0 y) (by omega) 1 z) (by omega) 2 t).mono (by omega)
  have q0 := (heap_setCell_other w8 ⟨w.heap.size + 1 + 1, 2, none⟩ (w.heap.size + 1) (.slice p3 d.ops.length cap3) (by simp)).trans HRS.out
  have q1 := heap_setCell_same _ (w.heap.size + 1) 0 _ _ (.slice p1 d.live.length cap1) q0
  have q2 := heap_setCell_same _ (w.heap.size + 1) 1 _ _ (.slice p2 d.safe.length cap2) q1
  have q3 := heap_setCell_same _ (w.heap.size + 1) 2 _ _ (.slice p3 d.ops.length cap3) q2
  refine bodyPost_ret (v := .agg #[.slice p1 d.live.length cap1, .slice p2 d.safe.length cap2, .slice p3 d.ops.length cap3]) (results_cell_row Try.results36 _ _ (w.heap.size + 1) 27 _ (0, 0) _ rfl q3 Try.underlying27 rfl (by kernel_rfl)) rfl ⟨_, _, _, rfl, K _ _ _ _ HR.out.1, K _ _ _ _ HR.out.2.1, K _ _ _ _ HR.out.2.2, HAP.out, ?_⟩
  exact (((HB8.out.setCell (by simp; omega) _).setCell (by simp) _).setCell (by simp) _).setCell (by simp) _


end Go.Proofs.Ytepefbfmjjnamaa
