/- The laws' comparisons of equal messages and envelopes. -/
import Derived.Test.YtmolcpojdojmlaaDoorWireE
namespace Go.Proofs.YtmolcpojdojmlaaDoor
open Go.RowKit Go.My Go.Lib
set_option linter.unusedVariables false

set_option maxHeartbeats 2000000 in
theorem eqHead_eq (p : ByteArray) (a b : Int) (w : World) :
    Calls Tryd.prog 47 #[.agg (headA p a b), .agg (headA p a b)] w fun e w' => e = .returned (.bool true) ∧ Below w.heap.size w w' := by
  go_enter Tryd.func47, Tryd.ntmps47
  go_wp2
  go_ret
  exact ⟨rfl, (below_box w _).alloc (by simp) _⟩

set_option maxHeartbeats 2000000 in
theorem eqInit_eq (p q : ByteArray) (a : Int) (w : World) :
    Calls Tryd.prog 24 #[.agg (initA p q a), .agg (initA p q a)] w fun e w' => e = .returned (.bool true) ∧ Below w.heap.size w w' := by
  go_enter Tryd.func24, Tryd.ntmps24
  go_wp2
  go_ret
  exact ⟨rfl, (below_box w _).alloc (by simp) _⟩

set_option maxHeartbeats 2000000 in
theorem eqMsg_eq (p : ByteArray) (a b : Int) (s : ByteArray) (w : World) :
    Calls Tryd.prog 25 #[.agg (msgA p a b s), .agg (msgA p a b s)] w fun e w' => e = .returned (.bool true) ∧ Below w.heap.size w w' := by
  have e1 : (w.alloc (.cells (msgA p a b s) 27)).heap.size = w.heap.size + 1 := by simp
  have x0 : BlkAt w.heap.size (msgA p a b s) 27 ((w.alloc (.cells (msgA p a b s) 27)).alloc (.cells (msgA p a b s) 27)) := (BlkAt.box _ _ _).past _
  have y0 : BlkAt (w.heap.size + 1) (msgA p a b s) 27 ((w.alloc (.cells (msgA p a b s) 27)).alloc (.cells (msgA p a b s) 27)) := by rw [← e1]; exact BlkAt.box _ _ _
  have hB : Below w.heap.size w ((w.alloc (.cells (msgA p a b s) 27)).alloc (.cells (msgA p a b s) 27)) := (below_box w _).alloc (by simp) _
  go_enter Tryd.func25, Tryd.ntmps25
  go_wp2_with fail
  refine (eqHead_eq p a b _).mono ?_
  rintro e w1 ⟨rfl, hb1⟩
  have x0 := BlkAt.below hb1 x0
  have y0 := BlkAt.below hb1 y0
  have hB := below_next hb1 hB hB.size
  have c3 := x0.cell (j := 3) rfl
  have d3 := y0.cell (j := 3) rfl
  go_wp2
  go_ret
  exact ⟨rfl, hB⟩

set_option maxHeartbeats 4000000 in
set_option maxRecDepth 100000 in
theorem eqEnv_eq (f t : Int) (z : Bool) (p q : ByteArray) (o : Int) (u : ByteArray) (a b : Int) (x : ByteArray) (w : World) :
    Calls Tryd.prog 8 #[.agg (envA f t z p q o u a b x), .agg (envA f t z p q o u a b x)] w fun e w' => e = .returned (.bool true) ∧ Below w.heap.size w w' := by
  have e1 : (w.alloc (.cells (envA f t z p q o u a b x) 29)).heap.size = w.heap.size + 1 := by simp
  have x0 : BlkAt w.heap.size (envA f t z p q o u a b x) 29 ((w.alloc (.cells (envA f t z p q o u a b x) 29)).alloc (.cells (envA f t z p q o u a b x) 29)) := (BlkAt.box _ _ _).past _
  have y0 : BlkAt (w.heap.size + 1) (envA f t z p q o u a b x) 29 ((w.alloc (.cells (envA f t z p q o u a b x) 29)).alloc (.cells (envA f t z p q o u a b x) 29)) := by rw [← e1]; exact BlkAt.box _ _ _
  have hB : Below w.heap.size w ((w.alloc (.cells (envA f t z p q o u a b x) 29)).alloc (.cells (envA f t z p q o u a b x) 29)) := (below_box w _).alloc (by simp) _
  clear e1
  go_enter Tryd.func8, Tryd.ntmps8
  go_wp2_with fail
  refine (eqInit_eq p q o _).mono ?_
  rintro e w1 ⟨rfl, hb1⟩
  have x0 := BlkAt.below hb1 x0
  have y0 := BlkAt.below hb1 y0
  have hB := below_next hb1 hB hB.size
  clear hb1
  have c6 := x0.cell (j := 6) rfl
  have c7 := x0.cell (j := 7) rfl
  have c8 := x0.cell (j := 8) rfl
  have c9 := x0.cell (j := 9) rfl
  have d6 := y0.cell (j := 6) rfl
  have d7 := y0.cell (j := 7) rfl
  have d8 := y0.cell (j := 8) rfl
  have d9 := y0.cell (j := 9) rfl
  go_wp2_with fail
  refine (eqMsg_eq u a b x _).mono ?_
  rintro e w2 ⟨rfl, hb2⟩
  have hB := below_next hb2 hB hB.size
  go_wp2
  go_ret
  exact ⟨rfl, hB⟩

end Go.Proofs.YtmolcpojdojmlaaDoor
