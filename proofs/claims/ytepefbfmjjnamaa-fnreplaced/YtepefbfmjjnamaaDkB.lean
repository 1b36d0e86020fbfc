/- The exact laws' helpers for disks: sizes, comparison, marks. -/
import Derived.Test.YtepefbfmjjnamaaDkA
namespace Go.Proofs.Ytepefbfmjjnamaa
open Go.RowKit Go.My Go.Lib
set_option linter.unusedVariables false

def DiskT.sz (d : DiskT) : Nat := d.live.length + fileSum d.live + (d.safe.length + fileSum d.safe) + (d.ops.length + dOpSum d.ops)
/-- A disk as an argument has it. -/
structure DiskArg (v1 v2 v3 : Value) (d : DiskT) (w : World) : Prop where
  live : ArgL 2 fileC v1 d.live w
  safe : ArgL 2 fileC v2 d.safe w
  ops : ArgL 4 dOpC v3 d.ops w
  wl : ∀ a ∈ d.live, fileW a
  ws : ∀ a ∈ d.safe, fileW a
  wo : ∀ a ∈ d.ops, dOpW a

set_option maxHeartbeats 1000000 in
theorem szDisk_any (v1 v2 v3 : Value) (d : DiskT) (left : Nat) (w : World) (h : DiskArg v1 v2 v3 d w) (hl : left ≤ 1048576) :
    Calls Try.prog 35 #[.agg #[v1, v2, v3], .int .i64 left] w fun e w' => ((∃ r : Nat, e = .returned (.int .i64 r) ∧ r + d.sz = left) ∨ e = .returned (.int .i64 (-1))) ∧ Below w.heap.size w w' := by
  have H := Lib.hid h
  have hlI : (left : Int) ≤ 1048576 := by omega
  have C1 := Lib.hid (fun W (hW : Below w.heap.size w W) => szFileS_any v1 d.live left W (H.out.live.below hW) H.out.wl hl)
  have C2 := Lib.hid (fun W r (hr : r ≤ 1048576) (hW : Below w.heap.size w W) => szFileS_any v2 d.safe r W (H.out.safe.below hW) H.out.ws hr)
  have C3 := Lib.hid (fun W r (hr : r ≤ 1048576) (hW : Below w.heap.size w W) => szDOpS_any v3 d.ops r W (H.out.ops.below hW) H.out.wo hr)
  have HL := Lib.hid hl
  clear h H hl
  go_enter Try.func35, Try.ntmps35
  go_wp2_with fail
  have hb0 : Below w.heap.size w (w.alloc (.cells #[v1, v2, v3] 56)) := (boxes1 w _ _ (Below.refl _ _)).1
  refine (C1.out _ (by exact hb0)).mono ?_
  rintro e w2 ⟨hres, hb2⟩
  obtain ⟨hB2, bx2⟩ := boxes1 w _ _ hb2
  clear hb2 hb0 C1
  rcases hres with ⟨r1, rfl, hr1⟩ | rfl
  case inr =>
    go_wp2
    go_ret
    exact ⟨.inr rfl, hB2⟩
  have q1 : ¬ (r1 : Int) < 0 := by omega
  obtain ⟨⟨b0, b1, b2⟩, _⟩ := dk_cells bx2
  have HR1 := Lib.hid hr1
  have HX2 := Lib.hid (And.intro hB2 bx2)
  clear hr1 bx2
  go_wp2_with fail
  refine (C2.out _ r1 (by have := HR1.out; have := HL.out; omega) (by exact hB2)).mono ?_
  rintro e w3 ⟨hres, hb3⟩
  have hB3 := HX2.out.1.trans (hb3.mono HX2.out.1.size)
  have bx3 := (hb3.block _ (Array.getElem?_eq_some_iff.1 HX2.out.2).1).trans HX2.out.2
  clear hb3 HX2 C2 b0 b1 b2 hB2
  rcases hres with ⟨r2, rfl, hr2⟩ | rfl
  case inr =>
    go_wp2
    go_ret
    exact ⟨.inr rfl, hB3⟩
  have q2 : ¬ (r2 : Int) < 0 := by omega
  obtain ⟨⟨b0, b1, b2⟩, _⟩ := dk_cells bx3
  have HR2 := Lib.hid hr2
  clear hr2 bx3
  go_wp2_with fail
  refine (C3.out _ r2 (by have := HR1.out; have := HR2.out; have := HL.out; omega) (by exact hB3)).mono ?_
  rintro e w4 ⟨hres, hb4⟩
  have hB4 := hB3.trans (hb4.mono hB3.size)
  clear hb4 C3 b0 b1 b2 hB3
  rcases hres with ⟨r3, rfl, hr3⟩ | rfl
  case inr =>
    go_wp2
    go_ret
    exact ⟨.inr rfl, hB4⟩
  have q3 : ¬ (r3 : Int) < 0 := by omega
  have HZ : Hid (r3 + d.sz = left) := by have := HR1.out; have := HR2.out; show _ + (_ + _ + (_ + _) + (_ + _)) = _; omega
  clear hr3
  go_wp2
  go_ret
  exact ⟨.inl ⟨r3, rfl, HZ.out⟩, hB4⟩

/-- A disk in memory that the call owns. -/
structure DiskAt (B : Nat) (v1 v2 v3 : Value) (d : DiskT) (w : World) : Prop where
  live : FilesAt B v1 d.live w
  safe : FilesAt B v2 d.safe w
  ops : OpsAt B v3 d.ops w
theorem DiskAt.below {B : Nat} {v1 v2 v3 : Value} {d : DiskT} {w w' : World} (h : DiskAt B v1 v2 v3 d w) (hb : Below w.heap.size w w') : DiskAt B v1 v2 v3 d w' := ⟨h.live.below hb, h.safe.below hb, h.ops.below hb⟩
theorem DiskAt.mono {B B' : Nat} {v1 v2 v3 : Value} {d : DiskT} {w : World} (h : DiskAt B v1 v2 v3 d w) (hB : B' ≤ B) : DiskAt B' v1 v2 v3 d w := ⟨h.live.mono hB, h.safe.mono hB, h.ops.mono hB⟩
structure DiskT.small (d : DiskT) : Prop where
  live : d.live.length ≤ 1048576
  safe : d.safe.length ≤ 1048576
  ops : d.ops.length ≤ 1048576

set_option maxHeartbeats 1000000 in
theorem eqDisk_same (u1 u2 u3 v1 v2 v3 : Value) (d : DiskT) (w : World) (h1 : DiskAt 0 u1 u2 u3 d w) (h2 : DiskAt 0 v1 v2 v3 d w) (hl : d.small) :
    Calls Try.prog 37 #[.agg #[u1, u2, u3], .agg #[v1, v2, v3]] w fun e w' => e = .returned (.bool true) ∧ Below w.heap.size w w' := by
  have C1 := Lib.hid (fun W (hW : Below w.heap.size w W) => eqFileS_same u1 v1 d.live W (h1.live.below hW) (h2.live.below hW) hl.live)
  have C2 := Lib.hid (fun W (hW : Below w.heap.size w W) => eqFileS_same u2 v2 d.safe W (h1.safe.below hW) (h2.safe.below hW) hl.safe)
  have C3 := Lib.hid (fun W (hW : Below w.heap.size w W) => eqDOpS_same u3 v3 d.ops W (h1.ops.below hW) (h2.ops.below hW) hl.ops)
  clear h1 h2 hl
  go_enter Try.func37, Try.ntmps37
  go_wp2_with fail
  have hb0 : Below w.heap.size w ((w.alloc (.cells #[u1, u2, u3] 27)).alloc (.cells #[v1, v2, v3] 27)) := (boxes2 w _ _ _ (Below.refl _ _)).1
  refine (C1.out _ (by exact hb0)).mono ?_
  rintro e w2 ⟨rfl, hb2⟩
  obtain ⟨hB2, bx2, by2⟩ := boxes2 w _ _ _ hb2
  clear hb2 hb0 C1
  obtain ⟨⟨b0, b1, b2⟩, _⟩ := dk_cells bx2
  obtain ⟨⟨c0, c1, c2⟩, _⟩ := dk_cells by2
  have HX2 := Lib.hid (And.intro bx2 by2)
  clear bx2 by2
  go_wp2_with fail
  refine (C2.out _ (by exact hB2)).mono ?_
  rintro e w3 ⟨rfl, hb3⟩
  have hB3 := hB2.trans (hb3.mono hB2.size)
  have bx3 := (hb3.block _ (Array.getElem?_eq_some_iff.1 HX2.out.1).1).trans HX2.out.1
  have by3 := (hb3.block _ (Array.getElem?_eq_some_iff.1 HX2.out.2).1).trans HX2.out.2
  clear hb3 HX2 C2 b0 b1 b2 c0 c1 c2 hB2
  obtain ⟨⟨b0, b1, b2⟩, _⟩ := dk_cells bx3
  obtain ⟨⟨c0, c1, c2⟩, _⟩ := dk_cells by3
  clear bx3 by3
  go_wp2_with fail
  refine (C3.out _ (by exact hB3)).mono ?_
  rintro e w4 ⟨rfl, hb4⟩
  have hB4 := hB3.trans (hb4.mono hB3.size)
  clear hb4 C3 b0 b1 b2 c0 c1 c2 hB3
  go_wp2
  go_ret
  exact ⟨rfl, hB4⟩

end Go.Proofs.Ytepefbfmjjnamaa
