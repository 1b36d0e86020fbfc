/- The program's reader of bytes: what it takes, and where it fails by a panic. -/
import Derived.Test.YtmekpinhhmknnaaDoorWire5
import Derived.Test.YtmekpinhhmknnaaDoorNumB
import Derived.WalkSmall
import Derived.WalkLawsBesides
namespace Go.Proofs.YtmekpinhhmknnaaDoor
open Go.RowKit Go.My Go.Lib
set_option linter.unusedVariables false

abbrev panE (T : TypeId) (v : Value) : Ending := .panicked [{ v := .iface T v, recovered := false }]

def cut (r : ByteArray) (i j : Nat) : ByteArray := r.extract i j

/-- All is as it was but the block g, and what is new. -/
def But (g : Nat) (w w' : World) : Prop := w'.os = w.os ∧ w'.tape = w.tape ∧ w'.output = w.output ∧ w.heap.size ≤ w'.heap.size ∧ ∀ k, k < w.heap.size → k ≠ g → w'.heap[k]? = w.heap[k]?
theorem But.refl (g : Nat) (w : World) : But g w w := ⟨rfl, rfl, rfl, Nat.le_refl _, fun _ _ _ => rfl⟩
theorem But.trans {g : Nat} {u v w : World} (h : But g u v) (k : But g v w) : But g u w :=
  ⟨k.1.trans h.1, k.2.1.trans h.2.1, k.2.2.1.trans h.2.2.1, Nat.le_trans h.2.2.2.1 k.2.2.2.1, fun j hj hg => (k.2.2.2.2 j (Nat.lt_of_lt_of_le hj h.2.2.2.1) hg).trans (h.2.2.2.2 j hj hg)⟩
theorem But.of_below {g : Nat} {u v : World} (h : Below u.heap.size u v) : But g u v := ⟨h.os, h.tape, h.output, h.size, fun k hk _ => h.block k hk⟩
theorem But.set {g : Nat} {u v : World} (h : But g u v) (j : Nat) (x : Value) : But g u (v.setCell ⟨g, j, none⟩ x) :=
  h.trans ⟨rfl, rfl, rfl, by simp, fun k _ hk => heap_setCell_other v ⟨g, j, none⟩ k x hk⟩
theorem But.setNew {g : Nat} {u v : World} (h : But g u v) (l j : Nat) (x : Value) (hl : u.heap.size ≤ l) : But g u (v.setCell ⟨l, j, none⟩ x) :=
  ⟨h.1, h.2.1, h.2.2.1, by simpa using h.2.2.2.1, fun k hk hg => (heap_setCell_other v ⟨l, j, none⟩ k x (by show k ≠ l; omega)).trans (h.2.2.2.2 k hk hg)⟩
theorem But.alloc {g : Nat} {u v : World} (h : But g u v) (o : Obj) : But g u (v.alloc o) := h.trans (But.of_below (below_box v o))
theorem But.below {g : Nat} {u v : World} (h : But g u v) (B : Nat) (hB : B ≤ u.heap.size) (hg : B ≤ g) : Below B u v := ⟨h.1, h.2.1, h.2.2.1, h.2.2.2.1, fun k hk => h.2.2.2.2 k (by omega) (by omega)⟩
theorem But.size {g : Nat} {u v : World} (h : But g u v) : u.heap.size ≤ v.heap.size := h.2.2.2.1
theorem BlkAt.but {g k : Nat} {cs : Array Value} {T : TypeId} {V W : World} (hb : But g V W) (hk : k ≠ g) (h : BlkAt k cs T V) : BlkAt k cs T W := (hb.2.2.2.2 k h.lt hk).trans h
/-! ### Taking at a place of the whole -/
theorem cut_front (r : ByteArray) (i n : Nat) (h : i + n ≤ r.size) : cut (cut r i r.size) 0 n = cut r i (i + n) := by
  unfold cut
  rw [ByteArray.extract_extract, Nat.add_zero, Nat.min_eq_left h]
theorem cut_rest (r : ByteArray) (i n : Nat) (h : i + n ≤ r.size) : cut (cut r i r.size) n (cut r i r.size).size = cut r (i + n) r.size := by
  have hs : (cut r i r.size).size = r.size - i := by unfold cut; simp
  rw [hs]
  unfold cut
  rw [ByteArray.extract_extract]
  congr 1
  omega
theorem cut_size (r : ByteArray) (i j : Nat) (h : j ≤ r.size) : (cut r i j).size = j - i := by unfold cut; simp; omega
theorem cut_all (r : ByteArray) : cut r 0 r.size = r := by unfold cut; simp

end Go.Proofs.YtmekpinhhmknnaaDoor
