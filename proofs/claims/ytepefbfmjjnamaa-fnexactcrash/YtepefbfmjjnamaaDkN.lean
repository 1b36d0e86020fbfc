/- Marks of a disk: written, held, and what stands beside them. -/
import Derived.Test.YtepefbfmjjnamaaDkB
namespace Go.My
open Go.RowKit
set_option linter.unusedVariables false
variable {α β : Type}

abbrev ApartV (v u : Value) : Prop := v.ownBlock = none ∨ v.ownBlock ≠ u.ownBlock
theorem ApartV.symm {v u : Value} (h : ApartV v u) : ApartV u v := by
  rcases h with h | h
  · cases hu : u.ownBlock with
    | none => exact .inl hu
    | some k => exact .inr (fun c => by have c1 := (hu.symm.trans c).trans h; cases c1)
  · exact .inr (fun c => h c.symm)
/-- A list lies in no block of another kind. -/
theorem row_kind {B e c g : Nat} {f : α → List Value} {v : Value} {l : List α} {w : World} {cs : Array Value} {T : TypeId} (h : RowL B e c f v l w) (hg : w.heap[g]? = some (.cells cs T (0, 0))) (hT : T ≠ e) : v.ownBlock ≠ some g := by
  rcases h.2 with ⟨hv, _⟩ | ⟨q, cap, cur, hv, _, hq, _⟩
  · rw [hv]; intro c; cases c
  · rw [hv]
    intro e1
    have e2 : q = g := Option.some.inj e1
    rw [e2, hg] at hq
    injection hq with hq
    injection hq with _ h2
    exact hT h2
theorem row_types {B B' e e' c c' : Nat} {f : α → List Value} {f' : β → List Value} {v v' : Value} {l : List α} {l' : List β} {w : World} (h : RowL B e c f v l w) (h' : RowL B' e' c' f' v' l' w) (he : e ≠ e') : ApartV v v' := by
  rcases h.2 with ⟨hv, _⟩ | ⟨q, cap, cur, hv, _, hq, _⟩
  · exact .inl (by rw [hv]; rfl)
  · refine .inr (fun c1 => ?_)
    rcases h'.2 with ⟨hv', _⟩ | ⟨q', cap', cur', hv', _, hq', _⟩
    · rw [hv, hv'] at c1; cases c1
    · rw [hv, hv'] at c1
      have e2 : q = q' := Option.some.inj c1
      rw [e2, hq'] at hq
      injection hq with hq
      injection hq with _ h2
      exact he h2.symm
/-- Three lists were written into, others made. -/
def Grow3 (v1 v2 v3 : Value) (w w' : World) : Prop := ∃ w1 w2, w.grownBy w1 v1.ownBlock ∧ w1.grownBy w2 v2.ownBlock ∧ w2.grownBy w' v3.ownBlock
theorem Grow3.row {v1 v2 v3 v : Value} {w w' : World} {B e c : Nat} {f : α → List Value} {l : List α} (hg : Grow3 v1 v2 v3 w w') (h : RowL B e c f v l w) (n1 : ApartV v v1) (n2 : ApartV v v2) (n3 : ApartV v v3) : RowL B e c f v l w' := by
  obtain ⟨w1, w2, g1, g2, g3⟩ := hg
  exact ((h.kept g1 n1).kept g2 n2).kept g3 n3
theorem Grow3.block {v1 v2 v3 : Value} {w w' : World} (hg : Grow3 v1 v2 v3 w w') (k : Nat) (hk : k < w.heap.size) (n1 : v1.ownBlock ≠ some k) (n2 : v2.ownBlock ≠ some k) (n3 : v3.ownBlock ≠ some k) : w'.heap[k]? = w.heap[k]? := by
  obtain ⟨w1, w2, g1, g2, g3⟩ := hg
  rw [g3.block k (Nat.lt_of_lt_of_le hk (Nat.le_trans g1.size g2.size)) (fun c => n3 c.symm), g2.block k (Nat.lt_of_lt_of_le hk g1.size) (fun c => n2 c.symm), g1.block k hk (fun c => n1 c.symm)]
theorem Grow3.size {v1 v2 v3 : Value} {w w' : World} (hg : Grow3 v1 v2 v3 w w') : w.heap.size ≤ w'.heap.size := by
  obtain ⟨w1, w2, g1, g2, g3⟩ := hg
  exact Nat.le_trans g1.size (Nat.le_trans g2.size g3.size)
theorem Grow3.below {v1 v2 v3 : Value} {w0 w w' : World} {B : Nat} (hg : Grow3 v1 v2 v3 w w') (h : Below B w0 w) (hs : B ≤ w.heap.size) (b1 : ∀ q, v1.ownBlock = some q → B ≤ q) (b2 : ∀ q, v2.ownBlock = some q → B ≤ q) (b3 : ∀ q, v3.ownBlock = some q → B ≤ q) : Below B w0 w' := by
  obtain ⟨w1, w2, g1, g2, g3⟩ := hg
  exact ((h.grown g1 hs b1).grown g2 (Nat.le_trans hs g1.size) b2).grown g3 (Nat.le_trans hs (Nat.le_trans g1.size g2.size)) b3

end Go.My
namespace Go.Proofs.Ytepefbfmjjnamaa
open Go.RowKit Go.My Go.Lib
set_option linter.unusedVariables false

def DiskT.marks (d : DiskT) (k : Nat) : DiskT := ⟨fileMs k d.live.length, fileMs (k + 2 * d.live.length) d.safe.length, dOpMs (k + 2 * d.live.length + 2 * d.safe.length) d.ops.length⟩
def DiskT.many (d : DiskT) : Nat := 2 * d.live.length + 2 * d.safe.length + 4 * d.ops.length

set_option maxHeartbeats 1000000 in
theorem markDisk_any (v1 v2 v3 : Value) (d : DiskT) (k : Nat) (w : World) (h : DiskAt 0 v1 v2 v3 d w) (ap : ApartV v1 v2) (hl : k + d.many ≤ 1099511627776) :
    Calls Try.prog 40 #[.agg #[v1, v2, v3], .int .i64 k] w fun e w' => e = .returned (.int .i64 ((k + d.many : Nat) : Int)) ∧ DiskAt 0 v1 v2 v3 (d.marks k) w' ∧ Grow3 v1 v2 v3 w w' := by
  have hl' : k + (2 * d.live.length + 2 * d.safe.length + 4 * d.ops.length) ≤ 1099511627776 := hl
  have t13 : ApartV v1 v3 := row_types h.live h.ops (by decide)
  have t23 : ApartV v2 v3 := row_types h.safe h.ops (by decide)
  have HE : Hid (k + 2 * d.live.length + 2 * d.safe.length + 4 * d.ops.length = k + d.many) := by show _ + _ + _ + _ = k + (_ + _ + _); omega
  have hx := heap_alloc_new w (.cells #[v1, v2, v3] 27)
  have hb0 : Below w.heap.size w (w.alloc (.cells #[v1, v2, v3] 27)) := (Below.refl _ _).alloc (Nat.le_refl _) _
  have H0 := Lib.hid (h.below hb0)
  have lt1 : ∀ q, v1.ownBlock = some q → q < w.heap.size := fun q hq => (World.ownsRow.lt h.live q hq).2
  have lt2 : ∀ q, v2.ownBlock = some q → q < w.heap.size := fun q hq => (World.ownsRow.lt h.safe q hq).2
  have G0 := Lib.hid (grw_of_below hb0 v1.ownBlock)
  have hs0 : (w.alloc (.cells #[v1, v2, v3] 27)).heap.size = w.heap.size + 1 := by simp
  have HQ := Lib.hid (And.intro ap (And.intro t13 (And.intro t23 (And.intro lt1 lt2))))
  obtain ⟨⟨b0, b1, b2⟩, _⟩ := dk_cells hx
  have HX := Lib.hid (And.intro hx hs0)
  clear h hb0 ap t13 t23 lt1 lt2 hx hl hs0
  go_enter Try.func40, Try.ntmps40
  go_wp2_with fail
  refine (markFileS_any v1 d.live k _ H0.out.live (by omega)).mono ?_
  rintro e w1 ⟨rfl, r1, g1⟩
  have x1 := (g1.block w.heap.size (by rw [HX.out.2]; omega) (fun c => by have := HQ.out.2.2.2.1 w.heap.size c.symm; omega)).trans HX.out.1
  have s1 := H0.out.safe.kept g1 HQ.out.1.symm
  have o1 := H0.out.ops.kept g1 HQ.out.2.1.symm
  obtain ⟨K1, hK1⟩ : ∃ K1, k + 2 * d.live.length = K1 := ⟨_, rfl⟩
  rw [hK1]
  have hsz1 : w.heap.size < w1.heap.size := (Array.getElem?_eq_some_iff.1 x1).1
  clear b0 b1 b2
  obtain ⟨⟨b0, b1, b2⟩, _⟩ := dk_cells x1
  have HX1 := Lib.hid x1
  clear x1
  go_wp2_with fail
  refine (markFileS_any v2 d.safe K1 _ s1 (by omega)).mono ?_
  rintro e w2 ⟨rfl, r2, g2⟩
  have x2 := (g2.block w.heap.size hsz1 (fun c => by have := HQ.out.2.2.2.2 w.heap.size c.symm; omega)).trans HX1.out
  have r1 := r1.kept g2 HQ.out.1
  have o1 := o1.kept g2 HQ.out.2.2.1.symm
  obtain ⟨K2, hK2⟩ : ∃ K2, K1 + 2 * d.safe.length = K2 := ⟨_, rfl⟩
  rw [hK2]
  clear b0 b1 b2
  obtain ⟨⟨b0, b1, b2⟩, _⟩ := dk_cells x2
  clear x2 s1
  go_wp2_with fail
  refine (markDOpS_any v3 d.ops K2 _ o1 (by omega)).mono ?_
  rintro e w3 ⟨rfl, r3, g3⟩
  have r1 := r1.kept g3 HQ.out.2.1
  have r2 := r2.kept g3 HQ.out.2.2.1
  obtain ⟨K3, hK3⟩ : ∃ K3, K2 + 4 * d.ops.length = K3 := ⟨_, rfl⟩
  rw [hK3]
  clear b0 b1 b2 o1
  have HF : Hid (K3 = k + d.many) := by show _ = _; rw [← HE.out, ← hK3, ← hK2, ← hK1]
  have HD : Hid (DiskAt 0 v1 v2 v3 (d.marks k) w3) := by
    refine ⟨r1, ?_, ?_⟩
    · show FilesAt 0 v2 (fileMs (k + 2 * d.live.length) d.safe.length) w3
      rw [hK1]; exact r2
    · show OpsAt 0 v3 (dOpMs (k + 2 * d.live.length + 2 * d.safe.length) d.ops.length) w3
      rw [hK1, hK2]; exact r3
  have HG : Hid (Grow3 v1 v2 v3 w w3) := ⟨w1, w2, grw_trans G0.out g1, g2, g3⟩
  clear r1 r2 r3 g1 g2 g3 hK1 hK2 hK3
  go_wp2
  go_ret
  exact ⟨by rw [HF.out]; rfl, HD.out, HG.out⟩

set_option maxHeartbeats 1000000 in
theorem heldDisk_any (v1 v2 v3 : Value) (d : DiskT) (k : Nat) (w : World) (h : DiskAt 0 v1 v2 v3 (d.marks k) w) (hl : k + d.many ≤ 1099511627776) :
    Calls Try.prog 41 #[.agg #[v1, v2, v3], .int .i64 k] w fun e w' => e = .returned (.int .i64 ((k + d.many : Nat) : Int)) ∧ Below w.heap.size w w' := by
  have hl' : k + (2 * d.live.length + 2 * d.safe.length + 4 * d.ops.length) ≤ 1099511627776 := hl
  have HE : Hid (k + 2 * d.live.length + 2 * d.safe.length + 4 * d.ops.length = k + d.many) := by show _ + _ + _ + _ = k + (_ + _ + _); omega
  have hx := heap_alloc_new w (.cells #[v1, v2, v3] 27)
  have hB : Below w.heap.size w (w.alloc (.cells #[v1, v2, v3] 27)) := (Below.refl _ _).alloc (Nat.le_refl _) _
  have r1 : FilesAt 0 v1 (fileMs k d.live.length) w := h.live
  have r2 : FilesAt 0 v2 (fileMs (k + 2 * d.live.length) d.safe.length) w := h.safe
  have r3 : OpsAt 0 v3 (dOpMs (k + 2 * d.live.length + 2 * d.safe.length) d.ops.length) w := h.ops
  obtain ⟨K1, hK1⟩ : ∃ K1, k + 2 * d.live.length = K1 := ⟨_, rfl⟩
  obtain ⟨K2, hK2⟩ : ∃ K2, K1 + 2 * d.safe.length = K2 := ⟨_, rfl⟩
  obtain ⟨K3, hK3⟩ : ∃ K3, K2 + 4 * d.ops.length = K3 := ⟨_, rfl⟩
  have HF : Hid (K3 = k + d.many) := by show _ = _; rw [← HE.out, ← hK3, ← hK2, ← hK1]
  have C1 := Lib.hid (fun W (hW : Below w.heap.size w W) => heldFileS_any v1 d.live.length k W (r1.below hW) (by omega))
  have C2 := Lib.hid (fun W (hW : Below w.heap.size w W) => heldFileS_any v2 d.safe.length (k + 2 * d.live.length) W (r2.below hW) (by omega))
  have C3 := Lib.hid (fun W (hW : Below w.heap.size w W) => heldDOpS_any v3 d.ops.length (k + 2 * d.live.length + 2 * d.safe.length) W (r3.below hW) (by omega))
  rw [hK1] at C1 C2 C3
  rw [hK2] at C2 C3
  rw [hK3] at C3
  have q1 : ¬ (K1 : Int) < 0 := by omega
  have q2 : ¬ (K2 : Int) < 0 := by omega
  have q3 : ¬ (K3 : Int) < 0 := by omega
  obtain ⟨⟨b0, b1, b2⟩, _⟩ := dk_cells hx
  have HX := Lib.hid hx
  clear h hl hl' r1 r2 r3 hK1 hK2 hK3 HE hx
  go_enter Try.func41, Try.ntmps41
  go_wp2_with fail
  refine (C1.out _ hB).mono ?_
  rintro e w1 ⟨rfl, hb1⟩
  have x1 := (hb1.block _ (Array.getElem?_eq_some_iff.1 HX.out).1).trans HX.out
  have hB := hB.trans (hb1.mono hB.size)
  clear b0 b1 b2 hb1
  obtain ⟨⟨b0, b1, b2⟩, _⟩ := dk_cells x1
  have HX1 := Lib.hid x1
  clear x1
  go_wp2_with fail
  refine (C2.out _ hB).mono ?_
  rintro e w2 ⟨rfl, hb2⟩
  have x2 := (hb2.block _ (Array.getElem?_eq_some_iff.1 HX1.out).1).trans HX1.out
  have hB := hB.trans (hb2.mono hB.size)
  clear b0 b1 b2 hb2
  obtain ⟨⟨b0, b1, b2⟩, _⟩ := dk_cells x2
  clear x2
  go_wp2_with fail
  refine (C3.out _ hB).mono ?_
  rintro e w3 ⟨rfl, hb3⟩
  have hB := hB.trans (hb3.mono hB.size)
  clear b0 b1 b2 hb3
  go_wp2
  go_ret
  exact ⟨by rw [HF.out]; rfl, hB⟩

end Go.Proofs.Ytepefbfmjjnamaa
