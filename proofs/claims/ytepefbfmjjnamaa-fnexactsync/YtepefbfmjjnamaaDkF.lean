/- Disks beside one another: what stands when one is marked. -/
import Derived.Test.YtepefbfmjjnamaaDkN
namespace Go.Proofs.Ytepefbfmjjnamaa
open Go.RowKit Go.My Go.Lib
set_option linter.unusedVariables false

structure Ap3 (s1 s2 s3 g1 g2 g3 : Value) : Prop where
  a11 : Apart s1 g1
  a12 : Apart s1 g2
  a13 : Apart s1 g3
  a21 : Apart s2 g1
  a22 : Apart s2 g2
  a23 : Apart s2 g3
  a31 : Apart s3 g1
  a32 : Apart s3 g2
  a33 : Apart s3 g3
theorem Ap3.symm {s1 s2 s3 g1 g2 g3 : Value} (h : Ap3 s1 s2 s3 g1 g2 g3) : Ap3 g1 g2 g3 s1 s2 s3 :=
  ⟨h.a11.symm, h.a21.symm, h.a31.symm, h.a12.symm, h.a22.symm, h.a32.symm, h.a13.symm, h.a23.symm, h.a33.symm⟩
theorem ap3 {B C : Nat} {s1 s2 s3 g1 g2 g3 : Value} {d d' : DiskT} {w w' : World} (hS : DiskAt B s1 s2 s3 d w) (hG : DiskAt C g1 g2 g3 d' w') (hC : w.heap.size ≤ C) : Ap3 s1 s2 s3 g1 g2 g3 :=
  ⟨row_apart hS.live hG.live hC, row_apart hS.live hG.safe hC, row_apart hS.live hG.ops hC, row_apart hS.safe hG.live hC, row_apart hS.safe hG.safe hC, row_apart hS.safe hG.ops hC, row_apart hS.ops hG.live hC, row_apart hS.ops hG.safe hC, row_apart hS.ops hG.ops hC⟩
theorem grow3_disk {x1 x2 x3 s1 s2 s3 : Value} {w w' : World} {B : Nat} {d : DiskT} (hg : Grow3 x1 x2 x3 w w') (h : DiskAt B s1 s2 s3 d w) (a : Ap3 s1 s2 s3 x1 x2 x3) : DiskAt B s1 s2 s3 d w' :=
  ⟨hg.row h.live a.a11 a.a12 a.a13, hg.row h.safe a.a21 a.a22 a.a23, hg.row h.ops a.a31 a.a32 a.a33⟩
theorem grow3_blk {x1 x2 x3 : Value} {w w' : World} {B k : Nat} {d : DiskT} {cs : Array Value} {T : TypeId} (hg : Grow3 x1 x2 x3 w w') (h : DiskAt B x1 x2 x3 d w) (hb : w.heap[k]? = some (.cells cs T (0, 0))) (h1 : T ≠ 88) (h2 : T ≠ 36) : w'.heap[k]? = some (.cells cs T (0, 0)) :=
  (hg.block k (Array.getElem?_eq_some_iff.1 hb).1 (row_kind h.live hb h1) (row_kind h.safe hb h1) (row_kind h.ops hb h2)).trans hb
theorem grow3_below {x1 x2 x3 : Value} {w0 w w' : World} {B : Nat} {d : DiskT} (hg : Grow3 x1 x2 x3 w w') (h : DiskAt B x1 x2 x3 d w) (hb : Below B w0 w) (hs : B ≤ w.heap.size) : Below B w0 w' :=
  hg.below hb hs (fun q hq => (World.ownsRow.lt h.live q hq).1) (fun q hq => (World.ownsRow.lt h.safe q hq).1) (fun q hq => (World.ownsRow.lt h.ops q hq).1)

theorem markOne (v1 v2 v3 : Value) (d : DiskT) (K : Nat) (hK : 1 + d.many = K) (ap : Apart v1 v2) (hl : K ≤ 1099511627776) (w : World) (h : DiskAt 0 v1 v2 v3 d w) :
    Calls Try.prog 40 #[.agg #[v1, v2, v3], .int .i64 1] w fun e w' => e = .returned (.int .i64 (K : Int)) ∧ DiskAt 0 v1 v2 v3 (d.marks 1) w' ∧ Grow3 v1 v2 v3 w w' := by
  subst hK
  exact markDisk_any v1 v2 v3 d 1 w h ap hl
theorem heldOne (v1 v2 v3 : Value) (d : DiskT) (K : Nat) (hK : 1 + d.many = K) (hl : K ≤ 1099511627776) (w : World) (h : DiskAt 0 v1 v2 v3 (d.marks 1) w) :
    Calls Try.prog 41 #[.agg #[v1, v2, v3], .int .i64 1] w fun e w' => e = .returned (.int .i64 (K : Int)) ∧ Below w.heap.size w w' := by
  subst hK
  exact heldDisk_any v1 v2 v3 d 1 w h hl

end Go.Proofs.Ytepefbfmjjnamaa
