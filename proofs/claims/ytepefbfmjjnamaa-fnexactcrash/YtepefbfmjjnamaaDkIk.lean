/- The program: DiskOk. -/
import Derived.Test.YtepefbfmjjnamaaDkIj
namespace Go.Proofs.Ytepefbfmjjnamaa
open Go.RowKit Go.My Go.Lib
set_option linter.unusedVariables false

set_option maxRecDepth 20000 in
set_option maxHeartbeats 1000000 in
theorem diskOk_i (v1 v2 v3 : Value) (d : DiskT) (w : World) (h : DiskAt 0 v1 v2 v3 d w) (hd : d.fit) :
    Calls Try.prog 17 #[.agg #[v1, v2, v3]] w fun e w' => e = .returned (.bool (diskB d)) ∧ Below w.heap.size w w' := by
  have C := Lib.hid (fun W (hW : Below w.heap.size w W) => driveOf_i v1 v2 v3 d W (h.below hW) hd)
  obtain ⟨p1, cap1, rfl, _, _, _⟩ := h.live.open
  obtain ⟨p2, cap2, rfl, _, _, _⟩ := h.safe.open
  obtain ⟨p3, cap3, rfl, _, _, _⟩ := h.ops.open
  have hb0 : ∀ (o : Obj), Below w.heap.size w (w.alloc o) := fun o => (Below.refl _ _).alloc (Nat.le_refl _) _
  clear h hd
  go_enter Try.func17, Try.ntmps17
  go_wp2_with fail
  refine (C.out _ (by first | exact hb0 _ | exact Below.refl _ _)).mono ?_
  rintro e w2 ⟨a, b, c, rfl, ⟨pa, na, ca, rfl⟩, ⟨pb, nb, cb, rfl⟩, ⟨pc, nc, cc, rfl⟩, hb2, _⟩
  have HB : Hid (Below w.heap.size w w2) := by
    first
      | exact hb2.mono (Nat.le_refl _)
      | exact (hb0 _).trans (hb2.mono (hb0 _).size)
  clear hb2
  go_wp2
  go_ret
  exact ⟨rfl, by first | exact HB.out | exact HB.out.alloc HB.out.size _ | exact (HB.out.alloc HB.out.size _).alloc (by have := HB.out.size; simp; omega) _⟩

end Go.Proofs.Ytepefbfmjjnamaa
