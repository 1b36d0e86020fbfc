/- The program's reader of bytes: what it takes, and where it fails by a panic. -/
import Derived.Test.YtmolcpojdojmlaaDoorWire5
import Derived.Test.YtmolcpojdojmlaaDoorNumB
import Derived.WalkSmall
import Derived.WalkLawsBesides
namespace Go.Proofs.YtmolcpojdojmlaaDoor
open Go.RowKit Go.My Go.Lib
set_option linter.unusedVariables false

/-- The variable of the one error, its value. -/
def TabE (T : TypeId) (v : Value) (w : World) : Prop := 0 < w.heap.size ∧ w.cell? ⟨0, 0, none⟩ = some (.iface T v)
abbrev panE (T : TypeId) (v : Value) : Ending := .panicked [{ v := .iface T v, recovered := false }]

theorem need_yes (g : Nat) (w : World) :
    Calls Tryd.prog 43 #[.pointer (some ⟨g, 0, none⟩), .bool true] w fun e w' => e = .returned (.tuple #[]) ∧ w = w' := by
  go_enter Tryd.func43, Tryd.ntmps43
  go_wp2
  go_end0
  exact ⟨rfl, rfl⟩
theorem need_no (g : Nat) (w : World) (T : TypeId) (v : Value) (hE : TabE T v w) :
    Calls Tryd.prog 43 #[.pointer (some ⟨g, 0, none⟩), .bool false] w fun e w' => e = panE T v ∧ w = w' := by
  have hc := hE.2
  go_enter Tryd.func43, Tryd.ntmps43
  go_wp2
  exact ⟨rfl, rfl, rfl⟩

/-- The reader's own block: what is left. -/
abbrev RdAt (g : Nat) (r : ByteArray) (W : World) : Prop := BlkAt g #[.string r] 64 W
def cut (r : ByteArray) (i j : Nat) : ByteArray := r.extract i j

set_option maxHeartbeats 2000000 in
theorem take_yes (g : Nat) (r : ByteArray) (n : Nat) (w : World) (h : RdAt g r w) (hn : n ≤ r.size) (hr : r.size ≤ 1048576) :
    Calls Tryd.prog 54 #[.pointer (some ⟨g, 0, none⟩), .int .i64 n] w fun e w' => e = .returned (.string (cut r 0 n)) ∧ w' = w.setCell ⟨g, 0, none⟩ (.string (cut r n r.size)) := by
  have hc := h.cell (j := 0) rfl
  have hf := h.froz (j := 0)
  have h0 : (0 : Int) ≤ (n : Int) := by omega
  have h1 : (n : Int) ≤ (r.size : Int) := by omega
  have hd : decide ((n : Int) ≤ (r.size : Int)) = true := by simp; omega
  go_enter Tryd.func54, Tryd.ntmps54
  go_wp2_with fail
  refine (need_yes g _).mono ?_
  rintro e w1 ⟨rfl, rfl⟩
  go_wp2
  go_ret
  exact ⟨rfl, rfl⟩

set_option maxHeartbeats 2000000 in
theorem take_no (g : Nat) (r : ByteArray) (n : Nat) (w : World) (T : TypeId) (v : Value) (hE : TabE T v w) (h : RdAt g r w) (hn : r.size < n) (hn2 : n ≤ 1048576) :
    Calls Tryd.prog 54 #[.pointer (some ⟨g, 0, none⟩), .int .i64 n] w fun e w' => e = panE T v ∧ w = w' := by
  have hc := h.cell (j := 0) rfl
  have hd : decide (n ≤ r.size) = false := by simp; omega
  go_enter Tryd.func54, Tryd.ntmps54
  go_wp2_with fail
  refine (need_no g _ T v hE).mono ?_
  rintro e w1 ⟨rfl, rfl⟩
  exact ⟨rfl, rfl, rfl⟩

set_option maxHeartbeats 2000000 in
theorem number_yes (g : Nat) (r : ByteArray) (n : Nat) (w : World) (h : RdAt g r w) (hn : n ≤ r.size) (hr : r.size ≤ 1048576) (h1 : 1 ≤ n) (h7 : n ≤ 7) :
    Calls Tryd.prog 44 #[.pointer (some ⟨g, 0, none⟩), .int .i64 n] w fun e w' => e = .returned (.int .i64 (numOf (cut r 0 n).data.toList)) ∧ w' = w.setCell ⟨g, 0, none⟩ (.string (cut r n r.size)) := by
  have hz : (cut r 0 n).size = n := by unfold cut; simp; omega
  have H1 := Lib.hid (take_yes g r n w h hn hr)
  have H2 := Lib.hid (fun w => bnumI (cut r 0 n) w (by omega) (by omega))
  clear hz hn hr h1 h7 h
  generalize cut r 0 n = c at *
  go_enter Tryd.func44, Tryd.ntmps44
  go_wp2_with fail
  refine H1.out.mono ?_
  rintro e w1 ⟨rfl, rfl⟩
  go_wp2_with fail
  refine (H2.out _).mono ?_
  rintro e w1 ⟨rfl, rfl⟩
  go_wp2_with fail
  refine (need_yes g _).mono ?_
  rintro e w1 ⟨rfl, rfl⟩
  go_wp2
  go_ret
  exact ⟨rfl, rfl⟩

set_option maxHeartbeats 2000000 in
theorem number_no (g : Nat) (r : ByteArray) (n : Nat) (w : World) (T : TypeId) (v : Value) (hE : TabE T v w) (h : RdAt g r w) (hn : r.size < n) (hn2 : n ≤ 1048576) :
    Calls Tryd.prog 44 #[.pointer (some ⟨g, 0, none⟩), .int .i64 n] w fun e w' => e = panE T v ∧ w = w' := by
  have H1 := Lib.hid (take_no g r n w T v hE h hn hn2)
  clear hn hn2 h hE
  go_enter Tryd.func44, Tryd.ntmps44
  go_wp2_with fail
  refine H1.out.mono ?_
  rintro e w1 ⟨rfl, rfl⟩
  exact ⟨rfl, rfl, rfl⟩

/-- All is as it was but the block g, and what is new. -/
def But (g : Nat) (w w' : World) : Prop := w'.os = w.os ∧ w'.tape = w.tape ∧ w'.output = w.output ∧ w.heap.size ≤ w'.heap.size ∧ ∀ k, k < w.heap.size → k ≠ g → w'.heap[k]? = w.heap[k]?
theorem But.refl (g : Nat) (w : World) : But g w w := ⟨rfl, rfl, rfl, Nat.le_refl _, fun _ _ _ => rfl⟩
theorem But.trans {g : Nat} {u v w : World} (h : But g u v) (k : But g v w) : But g u w :=
  ⟨k.1.trans h.1, k.2.1.trans h.2.1, k.2.2.1.trans h.2.2.1, Nat.le_trans h.2.2.2.1 k.2.2.2.1, fun j hj hg => (k.2.2.2.2 j (Nat.lt_of_lt_of_le hj h.2.2.2.1) hg).trans (h.2.2.2.2 j hj hg)⟩
theorem But.of_below {g : Nat} {u v : World} (h : Below u.heap.size u v) : But g u v := ⟨h.os, h.tape, h.output, h.size, fun k hk _ => h.block k hk⟩
theorem But.set {g : Nat} {u v : World} (h : But g u v) (j : Nat) (x : Value) : But g u (v.setCell ⟨g, j, none⟩ x) :=
  h.trans ⟨rfl, rfl, rfl, by simp, fun k _ hk => heap_setCell_other v ⟨g, j, none⟩ k x hk⟩
theorem But.setNew {g : Nat} {u v : World} (h : But g u v) (l j : Nat) (x : Value) (hl : u.heap.size ≤ l) : But g u (v.setCell ⟨l, j, none⟩ x) :=
  ⟨h.1, h.2.1, h.2.2.1, by simpa using h.2.2.2.1, fun k hk hg => (heap_setCell_other v ⟨l, j, none⟩ k x (by show k ≠ l; omega)).trans (h.2.2.2.2 k hk hg)⟩
theorem But.alloc {g : Nat} {u v : World} (h : But g u v) (o : Obj) : But g u (v.alloc o) := h.trans (But.of_below (below_box v o))
theorem But.below {g : Nat} {u v : World} (h : But g u v) (B : Nat) (hB : B ≤ u.heap.size) (hg : B ≤ g) : Below B u v := ⟨h.1, h.2.1, h.2.2.1, h.2.2.2.1, fun k hk => h.2.2.2.2 k (by omega) (by omega)⟩
theorem But.size {g : Nat} {u v : World} (h : But g u v) : u.heap.size ≤ v.heap.size := h.2.2.2.1
theorem BlkAt.but {g k : Nat} {cs : Array Value} {T : TypeId} {V W : World} (hb : But g V W) (hk : k ≠ g) (h : BlkAt k cs T V) : BlkAt k cs T W := (hb.2.2.2.2 k h.lt hk).trans h
theorem TabE.but {g : Nat} {T : TypeId} {v : Value} {V W : World} (hb : But g V W) (hk : 0 ≠ g) (h : TabE T v V) : TabE T v W :=
  ⟨Nat.lt_of_lt_of_le h.1 hb.size, (World.cell?_of_block (w := V) (a := ⟨0, 0, none⟩) (hb.2.2.2.2 _ h.1 hk)).trans h.2⟩
theorem TabE.below {T : TypeId} {v : Value} {V W : World} (hb : Below V.heap.size V W) (h : TabE T v V) : TabE T v W :=
  ⟨Nat.lt_of_lt_of_le h.1 hb.size, (hb.cell (p := ⟨0, 0, none⟩) h.1).trans h.2⟩

/-! ### Taking at a place of the whole -/
theorem cut_front (r : ByteArray) (i n : Nat) (h : i + n ≤ r.size) : cut (cut r i r.size) 0 n = cut r i (i + n) := by
  unfold cut
  rw [ByteArray.extract_extract, Nat.add_zero, Nat.min_eq_left h]
theorem cut_rest (r : ByteArray) (i n : Nat) (h : i + n ≤ r.size) : cut (cut r i r.size) n (cut r i r.size).size = cut r (i + n) r.size := by
  have hs : (cut r i r.size).size = r.size - i := by unfold cut; simp
  rw [hs]
  unfold cut
  rw [ByteArray.extract_extract]
  congr 1
  omega
theorem cut_size (r : ByteArray) (i j : Nat) (h : j ≤ r.size) : (cut r i j).size = j - i := by unfold cut; simp; omega
theorem cut_all (r : ByteArray) : cut r 0 r.size = r := by unfold cut; simp

theorem take_at (g : Nat) (r : ByteArray) (i n : Nat) (w : World) (h : RdAt g (cut r i r.size) w) (hn : i + n ≤ r.size) (hr : r.size ≤ 1048576) :
    Calls Tryd.prog 54 #[.pointer (some ⟨g, 0, none⟩), .int .i64 n] w fun e w' => e = .returned (.string (cut r i (i + n))) ∧ RdAt g (cut r (i + n) r.size) w' ∧ But g w w' := by
  have hs := cut_size r i r.size (Nat.le_refl _)
  refine (take_yes g _ n w h (by omega) (by omega)).mono ?_
  rintro e w1 ⟨rfl, rfl⟩
  rw [cut_front r i n hn, cut_rest r i n hn]
  exact ⟨rfl, BlkAt.set h 0 _, (But.refl g w).set 0 _⟩
theorem take_at_no (g : Nat) (r : ByteArray) (i n : Nat) (w : World) (T : TypeId) (v : Value) (hE : TabE T v w) (h : RdAt g (cut r i r.size) w) (hn : r.size < i + n) (hi : i ≤ r.size) (hn2 : n ≤ 1048576) :
    Calls Tryd.prog 54 #[.pointer (some ⟨g, 0, none⟩), .int .i64 n] w fun e w' => e = panE T v ∧ w = w' := by
  have hs := cut_size r i r.size (Nat.le_refl _)
  exact take_no g _ n w T v hE h (by omega) hn2
theorem number_at (g : Nat) (r : ByteArray) (i n : Nat) (w : World) (h : RdAt g (cut r i r.size) w) (hn : i + n ≤ r.size) (hr : r.size ≤ 1048576) (h1 : 1 ≤ n) (h7 : n ≤ 7) :
    Calls Tryd.prog 44 #[.pointer (some ⟨g, 0, none⟩), .int .i64 n] w fun e w' => e = .returned (.int .i64 (numOf (cut r i (i + n)).data.toList)) ∧ RdAt g (cut r (i + n) r.size) w' ∧ But g w w' := by
  have hs := cut_size r i r.size (Nat.le_refl _)
  refine (number_yes g _ n w h (by omega) (by omega) h1 h7).mono ?_
  rintro e w1 ⟨rfl, rfl⟩
  rw [cut_front r i n hn, cut_rest r i n hn]
  exact ⟨rfl, BlkAt.set h 0 _, (But.refl g w).set 0 _⟩
theorem number_at_no (g : Nat) (r : ByteArray) (i n : Nat) (w : World) (T : TypeId) (v : Value) (hE : TabE T v w) (h : RdAt g (cut r i r.size) w) (hn : r.size < i + n) (hi : i ≤ r.size) (hn2 : n ≤ 1048576) :
    Calls Tryd.prog 44 #[.pointer (some ⟨g, 0, none⟩), .int .i64 n] w fun e w' => e = panE T v ∧ w = w' := by
  have hs := cut_size r i r.size (Nat.le_refl _)
  exact number_no g _ n w T v hE h (by omega) hn2

end Go.Proofs.YtmolcpojdojmlaaDoor
