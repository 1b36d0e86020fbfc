/- The reader's envelope. -/
import Derived.Test.YtmolcpojdojmlaaDoorRdM5
namespace Go.Proofs.YtmolcpojdojmlaaDoor
open Go.RowKit Go.My Go.Lib
set_option linter.unusedVariables false

set_option maxHeartbeats 8000000 in
set_option maxRecDepth 100000 in
theorem envelope_no0 (g : Nat) (r : ByteArray) (w : World) (T : TypeId) (v : Value) (hE : TabE T v w) (h : RdAt g r w) (hg0 : 0 ≠ g) (hr : r.size ≤ 1048576) (f t : Nat) (hf : numOf (cut r 0 1).data.toList = f) (ht : numOf (cut r 1 2).data.toList = t) (hl : r.size < 1)  :
    Calls Tryd.prog 23 #[.pointer (some ⟨g, 0, none⟩)] w fun e w' => e = panE T v ∧ But g w w' := by
  have hgl := h.lt
  have hEl := hE.1
  have hk1 : w.heap.size ≠ g := by omega
  have hk2 : w.heap.size + 1 ≠ g := by omega
  have hk1' : g ≠ w.heap.size := by omega
  have hk2' : g ≠ w.heap.size + 1 := by omega
  have HS := Lib.hid hr
  clear hr
  have Hf := Lib.hid hf
  have Ht := Lib.hid ht
  clear hf ht
  have HL := Lib.hid hl
  clear hl
  have h0 : RdAt g (cut r 0 r.size) w := by rw [cut_all]; exact h
  go_enter Tryd.func23, Tryd.ntmps23
  go_wp2_with fail
  have e1 : (w.alloc (.cells zeroE 29)).heap.size = w.heap.size + 1 := by simp
  have hB : But g w ((w.alloc (.cells zeroE 29)).alloc (.cells zeroE 29)) := ((But.refl g w).alloc _).alloc _
  have hR := (h0.past (.cells zeroE 29)).past (.cells zeroE 29)
  have hE0 : TabE T v ((w.alloc (.cells zeroE 29)).alloc (.cells zeroE 29)) := TabE.but hB hg0 hE
  have q0 : BlkAt w.heap.size zeroE 29 ((w.alloc (.cells zeroE 29)).alloc (.cells zeroE 29)) := (BlkAt.box _ _ _).past _
  have o0 : BlkAt (w.heap.size + 1) zeroE 29 ((w.alloc (.cells zeroE 29)).alloc (.cells zeroE 29)) := by rw [← e1]; exact BlkAt.box _ _ _
  clear e1
  refine (number_at_no g r 0 1 _ T v hE0 hR (by have := HL.out; omega) (by have := HL.out; omega) (by omega)).mono ?_
  rintro e w9 ⟨rfl, rfl⟩
  exact ⟨rfl, rfl, hB⟩

set_option maxHeartbeats 8000000 in
set_option maxRecDepth 100000 in
theorem envelope_no1 (g : Nat) (r : ByteArray) (w : World) (T : TypeId) (v : Value) (hE : TabE T v w) (h : RdAt g r w) (hg0 : 0 ≠ g) (hr : r.size ≤ 1048576) (f t : Nat) (hf : numOf (cut r 0 1).data.toList = f) (ht : numOf (cut r 1 2).data.toList = t) (hl : 1 ≤ r.size ∧ r.size < 2)  :
    Calls Tryd.prog 23 #[.pointer (some ⟨g, 0, none⟩)] w fun e w' => e = panE T v ∧ But g w w' := by
  have hgl := h.lt
  have hEl := hE.1
  have hk1 : w.heap.size ≠ g := by omega
  have hk2 : w.heap.size + 1 ≠ g := by omega
  have hk1' : g ≠ w.heap.size := by omega
  have hk2' : g ≠ w.heap.size + 1 := by omega
  have HS := Lib.hid hr
  clear hr
  have Hf := Lib.hid hf
  have Ht := Lib.hid ht
  clear hf ht
  have HL := Lib.hid hl
  clear hl
  have h0 : RdAt g (cut r 0 r.size) w := by rw [cut_all]; exact h
  go_enter Tryd.func23, Tryd.ntmps23
  go_wp2_with fail
  have e1 : (w.alloc (.cells zeroE 29)).heap.size = w.heap.size + 1 := by simp
  have hB : But g w ((w.alloc (.cells zeroE 29)).alloc (.cells zeroE 29)) := ((But.refl g w).alloc _).alloc _
  have hR := (h0.past (.cells zeroE 29)).past (.cells zeroE 29)
  have hE0 : TabE T v ((w.alloc (.cells zeroE 29)).alloc (.cells zeroE 29)) := TabE.but hB hg0 hE
  have q0 : BlkAt w.heap.size zeroE 29 ((w.alloc (.cells zeroE 29)).alloc (.cells zeroE 29)) := (BlkAt.box _ _ _).past _
  have o0 : BlkAt (w.heap.size + 1) zeroE 29 ((w.alloc (.cells zeroE 29)).alloc (.cells zeroE 29)) := by rw [← e1]; exact BlkAt.box _ _ _
  clear e1
  refine (number_at g r 0 1 _ hR (by have := HL.out; omega) HS.out (by omega) (by omega)).mono ?_
  rintro e w1 ⟨rfl, hR, hb⟩
  have hB := hB.trans hb
  have hE0 := TabE.but hb hg0 hE0
  have q0 := BlkAt.but hb hk1 q0
  have o0 := BlkAt.but hb hk2 o0
  clear hb
  have e0 : numOf (cut r 0 (0 + 1)).data.toList = f := Hf.out
  try rw [e0]
  clear e0
  have c0 := o0.cell (j := 0) rfl
  have f0 := o0.froz (j := 0)
  go_wp2_with fail
  clear c0 f0
  have hR := BlkAt.other hR 0 (.int .i64 (f : Nat)) hk2'
  have hB := But.setNew hB (w.heap.size + 1) 0 (.int .i64 (f : Nat)) (by omega)
  have hE0 : TabE T v _ := ⟨Nat.lt_of_lt_of_le hE0.1 (by simp), (World.cell?_of_block (w := w1) (a := ⟨0, 0, none⟩) (heap_setCell_other w1 ⟨w.heap.size + 1, 0, none⟩ _ (.int .i64 (f : Nat)) (by show (0 : Nat) ≠ w.heap.size + 1; have := hEl; omega))).trans hE0.2⟩
  have q0 := BlkAt.other q0 0 (.int .i64 (f : Nat)) (show w.heap.size ≠ w.heap.size + 1 by omega)
  have o0 : BlkAt (w.heap.size + 1) #[.int .i64 (f : Nat), .int .i64 0, .bool false, .string ⟨#[]⟩, .string ⟨#[]⟩, .int .i64 0, .string ⟨#[]⟩, .int .i64 0, .int .i64 0, .string ⟨#[]⟩] 29 _ := BlkAt.set o0 0 (.int .i64 (f : Nat))
  refine (number_at_no g r 1 1 _ T v hE0 hR (by have := HL.out; omega) (by have := HL.out; omega) (by omega)).mono ?_
  rintro e w9 ⟨rfl, rfl⟩
  exact ⟨rfl, rfl, hB⟩

set_option maxHeartbeats 8000000 in
set_option maxRecDepth 100000 in
theorem envelope_no2 (g : Nat) (r : ByteArray) (w : World) (T : TypeId) (v : Value) (hE : TabE T v w) (h : RdAt g r w) (hg0 : 0 ≠ g) (hr : r.size ≤ 1048576) (f t : Nat) (hf : numOf (cut r 0 1).data.toList = f) (ht : numOf (cut r 1 2).data.toList = t) (hl : 2 ≤ r.size ∧ r.size < 3)  :
    Calls Tryd.prog 23 #[.pointer (some ⟨g, 0, none⟩)] w fun e w' => e = panE T v ∧ But g w w' := by
  have hgl := h.lt
  have hEl := hE.1
  have hk1 : w.heap.size ≠ g := by omega
  have hk2 : w.heap.size + 1 ≠ g := by omega
  have hk1' : g ≠ w.heap.size := by omega
  have hk2' : g ≠ w.heap.size + 1 := by omega
  have HS := Lib.hid hr
  clear hr
  have Hf := Lib.hid hf
  have Ht := Lib.hid ht
  clear hf ht
  have HL := Lib.hid hl
  clear hl
  have h0 : RdAt g (cut r 0 r.size) w := by rw [cut_all]; exact h
  go_enter Tryd.func23, Tryd.ntmps23
  go_wp2_with fail
  have e1 : (w.alloc (.cells zeroE 29)).heap.size = w.heap.size + 1 := by simp
  have hB : But g w ((w.alloc (.cells zeroE 29)).alloc (.cells zeroE 29)) := ((But.refl g w).alloc _).alloc _
  have hR := (h0.past (.cells zeroE 29)).past (.cells zeroE 29)
  have hE0 : TabE T v ((w.alloc (.cells zeroE 29)).alloc (.cells zeroE 29)) := TabE.but hB hg0 hE
  have q0 : BlkAt w.heap.size zeroE 29 ((w.alloc (.cells zeroE 29)).alloc (.cells zeroE 29)) := (BlkAt.box _ _ _).past _
  have o0 : BlkAt (w.heap.size + 1) zeroE 29 ((w.alloc (.cells zeroE 29)).alloc (.cells zeroE 29)) := by rw [← e1]; exact BlkAt.box _ _ _
  clear e1
  refine (number_at g r 0 1 _ hR (by have := HL.out; omega) HS.out (by omega) (by omega)).mono ?_
  rintro e w1 ⟨rfl, hR, hb⟩
  have hB := hB.trans hb
  have hE0 := TabE.but hb hg0 hE0
  have q0 := BlkAt.but hb hk1 q0
  have o0 := BlkAt.but hb hk2 o0
  clear hb
  have e0 : numOf (cut r 0 (0 + 1)).data.toList = f := Hf.out
  try rw [e0]
  clear e0
  have c0 := o0.cell (j := 0) rfl
  have f0 := o0.froz (j := 0)
  go_wp2_with fail
  clear c0 f0
  have hR := BlkAt.other hR 0 (.int .i64 (f : Nat)) hk2'
  have hB := But.setNew hB (w.heap.size + 1) 0 (.int .i64 (f : Nat)) (by omega)
  have hE0 : TabE T v _ := ⟨Nat.lt_of_lt_of_le hE0.1 (by simp), (World.cell?_of_block (w := w1) (a := ⟨0, 0, none⟩) (heap_setCell_other w1 ⟨w.heap.size + 1, 0, none⟩ _ (.int .i64 (f : Nat)) (by show (0 : Nat) ≠ w.heap.size + 1; have := hEl; omega))).trans hE0.2⟩
  have q0 := BlkAt.other q0 0 (.int .i64 (f : Nat)) (show w.heap.size ≠ w.heap.size + 1 by omega)
  have o0 : BlkAt (w.heap.size + 1) #[.int .i64 (f : Nat), .int .i64 0, .bool false, .string ⟨#[]⟩, .string ⟨#[]⟩, .int .i64 0, .string ⟨#[]⟩, .int .i64 0, .int .i64 0, .string ⟨#[]⟩] 29 _ := BlkAt.set o0 0 (.int .i64 (f : Nat))
  refine (number_at g r 1 1 _ hR (by have := HL.out; omega) HS.out (by omega) (by omega)).mono ?_
  rintro e w2 ⟨rfl, hR, hb⟩
  have hB := hB.trans hb
  have hE0 := TabE.but hb hg0 hE0
  have q0 := BlkAt.but hb hk1 q0
  have o0 := BlkAt.but hb hk2 o0
  clear hb
  have e0 : numOf (cut r 1 (1 + 1)).data.toList = t := Ht.out
  try rw [e0]
  clear e0
  have c1 := o0.cell (j := 1) rfl
  have f1 := o0.froz (j := 1)
  go_wp2_with fail
  clear c1 f1
  have hR := BlkAt.other hR 1 (.int .i64 (t : Nat)) hk2'
  have hB := But.setNew hB (w.heap.size + 1) 1 (.int .i64 (t : Nat)) (by omega)
  have hE0 : TabE T v _ := ⟨Nat.lt_of_lt_of_le hE0.1 (by simp), (World.cell?_of_block (w := w2) (a := ⟨0, 0, none⟩) (heap_setCell_other w2 ⟨w.heap.size + 1, 1, none⟩ _ (.int .i64 (t : Nat)) (by show (0 : Nat) ≠ w.heap.size + 1; have := hEl; omega))).trans hE0.2⟩
  have q0 := BlkAt.other q0 1 (.int .i64 (t : Nat)) (show w.heap.size ≠ w.heap.size + 1 by omega)
  have o0 : BlkAt (w.heap.size + 1) #[.int .i64 (f : Nat), .int .i64 (t : Nat), .bool false, .string ⟨#[]⟩, .string ⟨#[]⟩, .int .i64 0, .string ⟨#[]⟩, .int .i64 0, .int .i64 0, .string ⟨#[]⟩] 29 _ := BlkAt.set o0 1 (.int .i64 (t : Nat))
  refine (flag_end g r 2 _ T v hE0 hR (by have := HL.out; omega) (by have := HL.out; omega)).mono ?_
  rintro e w9 ⟨rfl, hb⟩
  exact ⟨rfl, rfl, hB.trans hb⟩

set_option maxHeartbeats 8000000 in
set_option maxRecDepth 100000 in
theorem envelope_no3 (g : Nat) (r : ByteArray) (w : World) (T : TypeId) (v : Value) (hE : TabE T v w) (h : RdAt g r w) (hg0 : 0 ≠ g) (hr : r.size ≤ 1048576) (f t : Nat) (hf : numOf (cut r 0 1).data.toList = f) (ht : numOf (cut r 1 2).data.toList = t) (hl : 3 ≤ r.size) (hz : 1 < numOf (cut r 2 3).data.toList) :
    Calls Tryd.prog 23 #[.pointer (some ⟨g, 0, none⟩)] w fun e w' => e = panE T v ∧ But g w w' := by
  have hgl := h.lt
  have hEl := hE.1
  have hk1 : w.heap.size ≠ g := by omega
  have hk2 : w.heap.size + 1 ≠ g := by omega
  have hk1' : g ≠ w.heap.size := by omega
  have hk2' : g ≠ w.heap.size + 1 := by omega
  have HS := Lib.hid hr
  clear hr
  have Hf := Lib.hid hf
  have Ht := Lib.hid ht
  clear hf ht
  have HL := Lib.hid hl
  clear hl
  have HZ := Lib.hid hz
  clear hz
  have h0 : RdAt g (cut r 0 r.size) w := by rw [cut_all]; exact h
  go_enter Tryd.func23, Tryd.ntmps23
  go_wp2_with fail
  have e1 : (w.alloc (.cells zeroE 29)).heap.size = w.heap.size + 1 := by simp
  have hB : But g w ((w.alloc (.cells zeroE 29)).alloc (.cells zeroE 29)) := ((But.refl g w).alloc _).alloc _
  have hR := (h0.past (.cells zeroE 29)).past (.cells zeroE 29)
  have hE0 : TabE T v ((w.alloc (.cells zeroE 29)).alloc (.cells zeroE 29)) := TabE.but hB hg0 hE
  have q0 : BlkAt w.heap.size zeroE 29 ((w.alloc (.cells zeroE 29)).alloc (.cells zeroE 29)) := (BlkAt.box _ _ _).past _
  have o0 : BlkAt (w.heap.size + 1) zeroE 29 ((w.alloc (.cells zeroE 29)).alloc (.cells zeroE 29)) := by rw [← e1]; exact BlkAt.box _ _ _
  clear e1
  refine (number_at g r 0 1 _ hR (by have := HL.out; omega) HS.out (by omega) (by omega)).mono ?_
  rintro e w1 ⟨rfl, hR, hb⟩
  have hB := hB.trans hb
  have hE0 := TabE.but hb hg0 hE0
  have q0 := BlkAt.but hb hk1 q0
  have o0 := BlkAt.but hb hk2 o0
  clear hb
  have e0 : numOf (cut r 0 (0 + 1)).data.toList = f := Hf.out
  try rw [e0]
  clear e0
  have c0 := o0.cell (j := 0) rfl
  have f0 := o0.froz (j := 0)
  go_wp2_with fail
  clear c0 f0
  have hR := BlkAt.other hR 0 (.int .i64 (f : Nat)) hk2'
  have hB := But.setNew hB (w.heap.size + 1) 0 (.int .i64 (f : Nat)) (by omega)
  have hE0 : TabE T v _ := ⟨Nat.lt_of_lt_of_le hE0.1 (by simp), (World.cell?_of_block (w := w1) (a := ⟨0, 0, none⟩) (heap_setCell_other w1 ⟨w.heap.size + 1, 0, none⟩ _ (.int .i64 (f : Nat)) (by show (0 : Nat) ≠ w.heap.size + 1; have := hEl; omega))).trans hE0.2⟩
  have q0 := BlkAt.other q0 0 (.int .i64 (f : Nat)) (show w.heap.size ≠ w.heap.size + 1 by omega)
  have o0 : BlkAt (w.heap.size + 1) #[.int .i64 (f : Nat), .int .i64 0, .bool false, .string ⟨#[]⟩, .string ⟨#[]⟩, .int .i64 0, .string ⟨#[]⟩, .int .i64 0, .int .i64 0, .string ⟨#[]⟩] 29 _ := BlkAt.set o0 0 (.int .i64 (f : Nat))
  refine (number_at g r 1 1 _ hR (by have := HL.out; omega) HS.out (by omega) (by omega)).mono ?_
  rintro e w2 ⟨rfl, hR, hb⟩
  have hB := hB.trans hb
  have hE0 := TabE.but hb hg0 hE0
  have q0 := BlkAt.but hb hk1 q0
  have o0 := BlkAt.but hb hk2 o0
  clear hb
  have e0 : numOf (cut r 1 (1 + 1)).data.toList = t := Ht.out
  try rw [e0]
  clear e0
  have c1 := o0.cell (j := 1) rfl
  have f1 := o0.froz (j := 1)
  go_wp2_with fail
  clear c1 f1
  have hR := BlkAt.other hR 1 (.int .i64 (t : Nat)) hk2'
  have hB := But.setNew hB (w.heap.size + 1) 1 (.int .i64 (t : Nat)) (by omega)
  have hE0 : TabE T v _ := ⟨Nat.lt_of_lt_of_le hE0.1 (by simp), (World.cell?_of_block (w := w2) (a := ⟨0, 0, none⟩) (heap_setCell_other w2 ⟨w.heap.size + 1, 1, none⟩ _ (.int .i64 (t : Nat)) (by show (0 : Nat) ≠ w.heap.size + 1; have := hEl; omega))).trans hE0.2⟩
  have q0 := BlkAt.other q0 1 (.int .i64 (t : Nat)) (show w.heap.size ≠ w.heap.size + 1 by omega)
  have o0 : BlkAt (w.heap.size + 1) #[.int .i64 (f : Nat), .int .i64 (t : Nat), .bool false, .string ⟨#[]⟩, .string ⟨#[]⟩, .int .i64 0, .string ⟨#[]⟩, .int .i64 0, .int .i64 0, .string ⟨#[]⟩] 29 _ := BlkAt.set o0 1 (.int .i64 (t : Nat))
  refine (flag_bad g r 2 _ T v hE0 hg0 hR (by have := HL.out; omega) HS.out HZ.out).mono ?_
  rintro e w9 ⟨rfl, hb⟩
  exact ⟨rfl, rfl, hB.trans hb⟩

set_option maxHeartbeats 8000000 in
set_option maxRecDepth 100000 in
theorem envelope_noF5 (g : Nat) (r : ByteArray) (w : World) (T : TypeId) (v : Value) (hE : TabE T v w) (h : RdAt g r w) (hg0 : 0 ≠ g) (hr : r.size ≤ 1048576) (f t : Nat) (hf : numOf (cut r 0 1).data.toList = f) (ht : numOf (cut r 1 2).data.toList = t) (hl : 3 ≤ r.size) (hz : numOf (cut r 2 3).data.toList = 0) (HM : ∀ w1 : World, RdAt g (cut r 3 r.size) w1 → TabE T v w1 → Calls Tryd.prog 32 #[.pointer (some ⟨g, 0, none⟩)] w1 fun e w' => e = panE T v ∧ But g w1 w') :
    Calls Tryd.prog 23 #[.pointer (some ⟨g, 0, none⟩)] w fun e w' => e = panE T v ∧ But g w w' := by
  have hgl := h.lt
  have hEl := hE.1
  have hk1 : w.heap.size ≠ g := by omega
  have hk2 : w.heap.size + 1 ≠ g := by omega
  have hk1' : g ≠ w.heap.size := by omega
  have hk2' : g ≠ w.heap.size + 1 := by omega
  have HS := Lib.hid hr
  clear hr
  have Hf := Lib.hid hf
  have Ht := Lib.hid ht
  clear hf ht
  have HL := Lib.hid hl
  clear hl
  have HZ := Lib.hid hz
  clear hz
  have HM := Lib.hid HM
  have h0 : RdAt g (cut r 0 r.size) w := by rw [cut_all]; exact h
  go_enter Tryd.func23, Tryd.ntmps23
  go_wp2_with fail
  have e1 : (w.alloc (.cells zeroE 29)).heap.size = w.heap.size + 1 := by simp
  have hB : But g w ((w.alloc (.cells zeroE 29)).alloc (.cells zeroE 29)) := ((But.refl g w).alloc _).alloc _
  have hR := (h0.past (.cells zeroE 29)).past (.cells zeroE 29)
  have hE0 : TabE T v ((w.alloc (.cells zeroE 29)).alloc (.cells zeroE 29)) := TabE.but hB hg0 hE
  have q0 : BlkAt w.heap.size zeroE 29 ((w.alloc (.cells zeroE 29)).alloc (.cells zeroE 29)) := (BlkAt.box _ _ _).past _
  have o0 : BlkAt (w.heap.size + 1) zeroE 29 ((w.alloc (.cells zeroE 29)).alloc (.cells zeroE 29)) := by rw [← e1]; exact BlkAt.box _ _ _
  clear e1
  refine (number_at g r 0 1 _ hR (by have := HL.out; omega) HS.out (by omega) (by omega)).mono ?_
  rintro e w1 ⟨rfl, hR, hb⟩
  have hB := hB.trans hb
  have hE0 := TabE.but hb hg0 hE0
  have q0 := BlkAt.but hb hk1 q0
  have o0 := BlkAt.but hb hk2 o0
  clear hb
  have e0 : numOf (cut r 0 (0 + 1)).data.toList = f := Hf.out
  try rw [e0]
  clear e0
  have c0 := o0.cell (j := 0) rfl
  have f0 := o0.froz (j := 0)
  go_wp2_with fail
  clear c0 f0
  have hR := BlkAt.other hR 0 (.int .i64 (f : Nat)) hk2'
  have hB := But.setNew hB (w.heap.size + 1) 0 (.int .i64 (f : Nat)) (by omega)
  have hE0 : TabE T v _ := ⟨Nat.lt_of_lt_of_le hE0.1 (by simp), (World.cell?_of_block (w := w1) (a := ⟨0, 0, none⟩) (heap_setCell_other w1 ⟨w.heap.size + 1, 0, none⟩ _ (.int .i64 (f : Nat)) (by show (0 : Nat) ≠ w.heap.size + 1; have := hEl; omega))).trans hE0.2⟩
  have q0 := BlkAt.other q0 0 (.int .i64 (f : Nat)) (show w.heap.size ≠ w.heap.size + 1 by omega)
  have o0 : BlkAt (w.heap.size + 1) #[.int .i64 (f : Nat), .int .i64 0, .bool false, .string ⟨#[]⟩, .string ⟨#[]⟩, .int .i64 0, .string ⟨#[]⟩, .int .i64 0, .int .i64 0, .string ⟨#[]⟩] 29 _ := BlkAt.set o0 0 (.int .i64 (f : Nat))
  refine (number_at g r 1 1 _ hR (by have := HL.out; omega) HS.out (by omega) (by omega)).mono ?_
  rintro e w2 ⟨rfl, hR, hb⟩
  have hB := hB.trans hb
  have hE0 := TabE.but hb hg0 hE0
  have q0 := BlkAt.but hb hk1 q0
  have o0 := BlkAt.but hb hk2 o0
  clear hb
  have e0 : numOf (cut r 1 (1 + 1)).data.toList = t := Ht.out
  try rw [e0]
  clear e0
  have c1 := o0.cell (j := 1) rfl
  have f1 := o0.froz (j := 1)
  go_wp2_with fail
  clear c1 f1
  have hR := BlkAt.other hR 1 (.int .i64 (t : Nat)) hk2'
  have hB := But.setNew hB (w.heap.size + 1) 1 (.int .i64 (t : Nat)) (by omega)
  have hE0 : TabE T v _ := ⟨Nat.lt_of_lt_of_le hE0.1 (by simp), (World.cell?_of_block (w := w2) (a := ⟨0, 0, none⟩) (heap_setCell_other w2 ⟨w.heap.size + 1, 1, none⟩ _ (.int .i64 (t : Nat)) (by show (0 : Nat) ≠ w.heap.size + 1; have := hEl; omega))).trans hE0.2⟩
  have q0 := BlkAt.other q0 1 (.int .i64 (t : Nat)) (show w.heap.size ≠ w.heap.size + 1 by omega)
  have o0 : BlkAt (w.heap.size + 1) #[.int .i64 (f : Nat), .int .i64 (t : Nat), .bool false, .string ⟨#[]⟩, .string ⟨#[]⟩, .int .i64 0, .string ⟨#[]⟩, .int .i64 0, .int .i64 0, .string ⟨#[]⟩] 29 _ := BlkAt.set o0 1 (.int .i64 (t : Nat))
  refine (flag_false g r 2 _ hR (by have := HL.out; omega) HS.out HZ.out).mono ?_
  rintro e w3 ⟨rfl, hR, hb⟩
  have hB := hB.trans hb
  have hE0 := TabE.but hb hg0 hE0
  have q0 := BlkAt.but hb hk1 q0
  have o0 := BlkAt.but hb hk2 o0
  clear hb
  have c2 := o0.cell (j := 2) rfl
  have f2 := o0.froz (j := 2)
  go_wp2_with fail
  clear c2 f2
  have hR := BlkAt.other hR 2 (.bool false) hk2'
  have hB := But.setNew hB (w.heap.size + 1) 2 (.bool false) (by omega)
  have hE0 : TabE T v _ := ⟨Nat.lt_of_lt_of_le hE0.1 (by simp), (World.cell?_of_block (w := w3) (a := ⟨0, 0, none⟩) (heap_setCell_other w3 ⟨w.heap.size + 1, 2, none⟩ _ (.bool false) (by show (0 : Nat) ≠ w.heap.size + 1; have := hEl; omega))).trans hE0.2⟩
  have q0 := BlkAt.other q0 2 (.bool false) (show w.heap.size ≠ w.heap.size + 1 by omega)
  have o0 : BlkAt (w.heap.size + 1) #[.int .i64 (f : Nat), .int .i64 (t : Nat), .bool false, .string ⟨#[]⟩, .string ⟨#[]⟩, .int .i64 0, .string ⟨#[]⟩, .int .i64 0, .int .i64 0, .string ⟨#[]⟩] 29 _ := BlkAt.set o0 2 (.bool false)
  refine (HM.out _ hR hE0).mono ?_
  rintro e w9 ⟨rfl, hb⟩
  exact ⟨rfl, rfl, hB.trans hb⟩

set_option maxHeartbeats 8000000 in
set_option maxRecDepth 100000 in
theorem envelope_noT4 (g : Nat) (r : ByteArray) (w : World) (T : TypeId) (v : Value) (hE : TabE T v w) (h : RdAt g r w) (hg0 : 0 ≠ g) (hr : r.size ≤ 1048576) (f t : Nat) (hf : numOf (cut r 0 1).data.toList = f) (ht : numOf (cut r 1 2).data.toList = t) (hl : 3 ≤ r.size) (hz : numOf (cut r 2 3).data.toList = 1) (HI : ∀ w1 : World, RdAt g (cut r 3 r.size) w1 → TabE T v w1 → Calls Tryd.prog 46 #[.pointer (some ⟨g, 0, none⟩)] w1 fun e w' => e = panE T v ∧ But g w1 w') :
    Calls Tryd.prog 23 #[.pointer (some ⟨g, 0, none⟩)] w fun e w' => e = panE T v ∧ But g w w' := by
  have hgl := h.lt
  have hEl := hE.1
  have hk1 : w.heap.size ≠ g := by omega
  have hk2 : w.heap.size + 1 ≠ g := by omega
  have hk1' : g ≠ w.heap.size := by omega
  have hk2' : g ≠ w.heap.size + 1 := by omega
  have HS := Lib.hid hr
  clear hr
  have Hf := Lib.hid hf
  have Ht := Lib.hid ht
  clear hf ht
  have HL := Lib.hid hl
  clear hl
  have HZ := Lib.hid hz
  clear hz
  have HI := Lib.hid HI
  have h0 : RdAt g (cut r 0 r.size) w := by rw [cut_all]; exact h
  go_enter Tryd.func23, Tryd.ntmps23
  go_wp2_with fail
  have e1 : (w.alloc (.cells zeroE 29)).heap.size = w.heap.size + 1 := by simp
  have hB : But g w ((w.alloc (.cells zeroE 29)).alloc (.cells zeroE 29)) := ((But.refl g w).alloc _).alloc _
  have hR := (h0.past (.cells zeroE 29)).past (.cells zeroE 29)
  have hE0 : TabE T v ((w.alloc (.cells zeroE 29)).alloc (.cells zeroE 29)) := TabE.but hB hg0 hE
  have q0 : BlkAt w.heap.size zeroE 29 ((w.alloc (.cells zeroE 29)).alloc (.cells zeroE 29)) := (BlkAt.box _ _ _).past _
  have o0 : BlkAt (w.heap.size + 1) zeroE 29 ((w.alloc (.cells zeroE 29)).alloc (.cells zeroE 29)) := by rw [← e1]; exact BlkAt.box _ _ _
  clear e1
  refine (number_at g r 0 1 _ hR (by have := HL.out; omega) HS.out (by omega) (by omega)).mono ?_
  rintro e w1 ⟨rfl, hR, hb⟩
  have hB := hB.trans hb
  have hE0 := TabE.but hb hg0 hE0
  have q0 := BlkAt.but hb hk1 q0
  have o0 := BlkAt.but hb hk2 o0
  clear hb
  have e0 : numOf (cut r 0 (0 + 1)).data.toList = f := Hf.out
  try rw [e0]
  clear e0
  have c0 := o0.cell (j := 0) rfl
  have f0 := o0.froz (j := 0)
  go_wp2_with fail
  clear c0 f0
  have hR := BlkAt.other hR 0 (.int .i64 (f : Nat)) hk2'
  have hB := But.setNew hB (w.heap.size + 1) 0 (.int .i64 (f : Nat)) (by omega)
  have hE0 : TabE T v _ := ⟨Nat.lt_of_lt_of_le hE0.1 (by simp), (World.cell?_of_block (w := w1) (a := ⟨0, 0, none⟩) (heap_setCell_other w1 ⟨w.heap.size + 1, 0, none⟩ _ (.int .i64 (f : Nat)) (by show (0 : Nat) ≠ w.heap.size + 1; have := hEl; omega))).trans hE0.2⟩
  have q0 := BlkAt.other q0 0 (.int .i64 (f : Nat)) (show w.heap.size ≠ w.heap.size + 1 by omega)
  have o0 : BlkAt (w.heap.size + 1) #[.int .i64 (f : Nat), .int .i64 0, .bool false, .string ⟨#[]⟩, .string ⟨#[]⟩, .int .i64 0, .string ⟨#[]⟩, .int .i64 0, .int .i64 0, .string ⟨#[]⟩] 29 _ := BlkAt.set o0 0 (.int .i64 (f : Nat))
  refine (number_at g r 1 1 _ hR (by have := HL.out; omega) HS.out (by omega) (by omega)).mono ?_
  rintro e w2 ⟨rfl, hR, hb⟩
  have hB := hB.trans hb
  have hE0 := TabE.but hb hg0 hE0
  have q0 := BlkAt.but hb hk1 q0
  have o0 := BlkAt.but hb hk2 o0
  clear hb
  have e0 : numOf (cut r 1 (1 + 1)).data.toList = t := Ht.out
  try rw [e0]
  clear e0
  have c1 := o0.cell (j := 1) rfl
  have f1 := o0.froz (j := 1)
  go_wp2_with fail
  clear c1 f1
  have hR := BlkAt.other hR 1 (.int .i64 (t : Nat)) hk2'
  have hB := But.setNew hB (w.heap.size + 1) 1 (.int .i64 (t : Nat)) (by omega)
  have hE0 : TabE T v _ := ⟨Nat.lt_of_lt_of_le hE0.1 (by simp), (World.cell?_of_block (w := w2) (a := ⟨0, 0, none⟩) (heap_setCell_other w2 ⟨w.heap.size + 1, 1, none⟩ _ (.int .i64 (t : Nat)) (by show (0 : Nat) ≠ w.heap.size + 1; have := hEl; omega))).trans hE0.2⟩
  have q0 := BlkAt.other q0 1 (.int .i64 (t : Nat)) (show w.heap.size ≠ w.heap.size + 1 by omega)
  have o0 : BlkAt (w.heap.size + 1) #[.int .i64 (f : Nat), .int .i64 (t : Nat), .bool false, .string ⟨#[]⟩, .string ⟨#[]⟩, .int .i64 0, .string ⟨#[]⟩, .int .i64 0, .int .i64 0, .string ⟨#[]⟩] 29 _ := BlkAt.set o0 1 (.int .i64 (t : Nat))
  refine (flag_true g r 2 _ hR (by have := HL.out; omega) HS.out HZ.out).mono ?_
  rintro e w3 ⟨rfl, hR, hb⟩
  have hB := hB.trans hb
  have hE0 := TabE.but hb hg0 hE0
  have q0 := BlkAt.but hb hk1 q0
  have o0 := BlkAt.but hb hk2 o0
  clear hb
  have c2 := o0.cell (j := 2) rfl
  have f2 := o0.froz (j := 2)
  go_wp2_with fail
  clear c2 f2
  have hR := BlkAt.other hR 2 (.bool true) hk2'
  have hB := But.setNew hB (w.heap.size + 1) 2 (.bool true) (by omega)
  have hE0 : TabE T v _ := ⟨Nat.lt_of_lt_of_le hE0.1 (by simp), (World.cell?_of_block (w := w3) (a := ⟨0, 0, none⟩) (heap_setCell_other w3 ⟨w.heap.size + 1, 2, none⟩ _ (.bool true) (by show (0 : Nat) ≠ w.heap.size + 1; have := hEl; omega))).trans hE0.2⟩
  have q0 := BlkAt.other q0 2 (.bool true) (show w.heap.size ≠ w.heap.size + 1 by omega)
  have o0 : BlkAt (w.heap.size + 1) #[.int .i64 (f : Nat), .int .i64 (t : Nat), .bool true, .string ⟨#[]⟩, .string ⟨#[]⟩, .int .i64 0, .string ⟨#[]⟩, .int .i64 0, .int .i64 0, .string ⟨#[]⟩] 29 _ := BlkAt.set o0 2 (.bool true)
  refine (HI.out _ hR hE0).mono ?_
  rintro e w9 ⟨rfl, hb⟩
  exact ⟨rfl, rfl, hB.trans hb⟩

set_option maxHeartbeats 8000000 in
set_option maxRecDepth 100000 in
theorem envelope_noT5 (g : Nat) (r : ByteArray) (w : World) (T : TypeId) (v : Value) (hE : TabE T v w) (h : RdAt g r w) (hg0 : 0 ≠ g) (hr : r.size ≤ 1048576) (f t : Nat) (hf : numOf (cut r 0 1).data.toList = f) (ht : numOf (cut r 1 2).data.toList = t) (hl : 3 ≤ r.size) (p q : ByteArray) (o : Int) (hz : numOf (cut r 2 3).data.toList = 1) (HI : ∀ w1 : World, RdAt g (cut r 3 r.size) w1 → TabE T v w1 → Calls Tryd.prog 46 #[.pointer (some ⟨g, 0, none⟩)] w1 fun e w' => e = .returned (.agg (initA p q o)) ∧ RdAt g (cut r 69 r.size) w' ∧ But g w1 w') (HM : ∀ w1 : World, RdAt g (cut r 69 r.size) w1 → TabE T v w1 → Calls Tryd.prog 32 #[.pointer (some ⟨g, 0, none⟩)] w1 fun e w' => e = panE T v ∧ But g w1 w') :
    Calls Tryd.prog 23 #[.pointer (some ⟨g, 0, none⟩)] w fun e w' => e = panE T v ∧ But g w w' := by
  have hgl := h.lt
  have hEl := hE.1
  have hk1 : w.heap.size ≠ g := by omega
  have hk2 : w.heap.size + 1 ≠ g := by omega
  have hk1' : g ≠ w.heap.size := by omega
  have hk2' : g ≠ w.heap.size + 1 := by omega
  have HS := Lib.hid hr
  clear hr
  have Hf := Lib.hid hf
  have Ht := Lib.hid ht
  clear hf ht
  have HL := Lib.hid hl
  clear hl
  have HZ := Lib.hid hz
  clear hz
  have HI := Lib.hid HI
  have HM := Lib.hid HM
  have h0 : RdAt g (cut r 0 r.size) w := by rw [cut_all]; exact h
  go_enter Tryd.func23, Tryd.ntmps23
  go_wp2_with fail
  have e1 : (w.alloc (.cells zeroE 29)).heap.size = w.heap.size + 1 := by simp
  have hB : But g w ((w.alloc (.cells zeroE 29)).alloc (.cells zeroE 29)) := ((But.refl g w).alloc _).alloc _
  have hR := (h0.past (.cells zeroE 29)).past (.cells zeroE 29)
  have hE0 : TabE T v ((w.alloc (.cells zeroE 29)).alloc (.cells zeroE 29)) := TabE.but hB hg0 hE
  have q0 : BlkAt w.heap.size zeroE 29 ((w.alloc (.cells zeroE 29)).alloc (.cells zeroE 29)) := (BlkAt.box _ _ _).past _
  have o0 : BlkAt (w.heap.size + 1) zeroE 29 ((w.alloc (.cells zeroE 29)).alloc (.cells zeroE 29)) := by rw [← e1]; exact BlkAt.box _ _ _
  clear e1
  refine (number_at g r 0 1 _ hR (by have := HL.out; omega) HS.out (by omega) (by omega)).mono ?_
  rintro e w1 ⟨rfl, hR, hb⟩
  have hB := hB.trans hb
  have hE0 := TabE.but hb hg0 hE0
  have q0 := BlkAt.but hb hk1 q0
  have o0 := BlkAt.but hb hk2 o0
  clear hb
  have e0 : numOf (cut r 0 (0 + 1)).data.toList = f := Hf.out
  try rw [e0]
  clear e0
  have c0 := o0.cell (j := 0) rfl
  have f0 := o0.froz (j := 0)
  go_wp2_with fail
  clear c0 f0
  have hR := BlkAt.other hR 0 (.int .i64 (f : Nat)) hk2'
  have hB := But.setNew hB (w.heap.size + 1) 0 (.int .i64 (f : Nat)) (by omega)
  have hE0 : TabE T v _ := ⟨Nat.lt_of_lt_of_le hE0.1 (by simp), (World.cell?_of_block (w := w1) (a := ⟨0, 0, none⟩) (heap_setCell_other w1 ⟨w.heap.size + 1, 0, none⟩ _ (.int .i64 (f : Nat)) (by show (0 : Nat) ≠ w.heap.size + 1; have := hEl; omega))).trans hE0.2⟩
  have q0 := BlkAt.other q0 0 (.int .i64 (f : Nat)) (show w.heap.size ≠ w.heap.size + 1 by omega)
  have o0 : BlkAt (w.heap.size + 1) #[.int .i64 (f : Nat), .int .i64 0, .bool false, .string ⟨#[]⟩, .string ⟨#[]⟩, .int .i64 0, .string ⟨#[]⟩, .int .i64 0, .int .i64 0, .string ⟨#[]⟩] 29 _ := BlkAt.set o0 0 (.int .i64 (f : Nat))
  refine (number_at g r 1 1 _ hR (by have := HL.out; omega) HS.out (by omega) (by omega)).mono ?_
  rintro e w2 ⟨rfl, hR, hb⟩
  have hB := hB.trans hb
  have hE0 := TabE.but hb hg0 hE0
  have q0 := BlkAt.but hb hk1 q0
  have o0 := BlkAt.but hb hk2 o0
  clear hb
  have e0 : numOf (cut r 1 (1 + 1)).data.toList = t := Ht.out
  try rw [e0]
  clear e0
  have c1 := o0.cell (j := 1) rfl
  have f1 := o0.froz (j := 1)
  go_wp2_with fail
  clear c1 f1
  have hR := BlkAt.other hR 1 (.int .i64 (t : Nat)) hk2'
  have hB := But.setNew hB (w.heap.size + 1) 1 (.int .i64 (t : Nat)) (by omega)
  have hE0 : TabE T v _ := ⟨Nat.lt_of_lt_of_le hE0.1 (by simp), (World.cell?_of_block (w := w2) (a := ⟨0, 0, none⟩) (heap_setCell_other w2 ⟨w.heap.size + 1, 1, none⟩ _ (.int .i64 (t : Nat)) (by show (0 : Nat) ≠ w.heap.size + 1; have := hEl; omega))).trans hE0.2⟩
  have q0 := BlkAt.other q0 1 (.int .i64 (t : Nat)) (show w.heap.size ≠ w.heap.size + 1 by omega)
  have o0 : BlkAt (w.heap.size + 1) #[.int .i64 (f : Nat), .int .i64 (t : Nat), .bool false, .string ⟨#[]⟩, .string ⟨#[]⟩, .int .i64 0, .string ⟨#[]⟩, .int .i64 0, .int .i64 0, .string ⟨#[]⟩] 29 _ := BlkAt.set o0 1 (.int .i64 (t : Nat))
  refine (flag_true g r 2 _ hR (by have := HL.out; omega) HS.out HZ.out).mono ?_
  rintro e w3 ⟨rfl, hR, hb⟩
  have hB := hB.trans hb
  have hE0 := TabE.but hb hg0 hE0
  have q0 := BlkAt.but hb hk1 q0
  have o0 := BlkAt.but hb hk2 o0
  clear hb
  have c2 := o0.cell (j := 2) rfl
  have f2 := o0.froz (j := 2)
  go_wp2_with fail
  clear c2 f2
  have hR := BlkAt.other hR 2 (.bool true) hk2'
  have hB := But.setNew hB (w.heap.size + 1) 2 (.bool true) (by omega)
  have hE0 : TabE T v _ := ⟨Nat.lt_of_lt_of_le hE0.1 (by simp), (World.cell?_of_block (w := w3) (a := ⟨0, 0, none⟩) (heap_setCell_other w3 ⟨w.heap.size + 1, 2, none⟩ _ (.bool true) (by show (0 : Nat) ≠ w.heap.size + 1; have := hEl; omega))).trans hE0.2⟩
  have q0 := BlkAt.other q0 2 (.bool true) (show w.heap.size ≠ w.heap.size + 1 by omega)
  have o0 : BlkAt (w.heap.size + 1) #[.int .i64 (f : Nat), .int .i64 (t : Nat), .bool true, .string ⟨#[]⟩, .string ⟨#[]⟩, .int .i64 0, .string ⟨#[]⟩, .int .i64 0, .int .i64 0, .string ⟨#[]⟩] 29 _ := BlkAt.set o0 2 (.bool true)
  refine (HI.out _ hR hE0).mono ?_
  rintro e w4 ⟨rfl, hR, hb⟩
  have hB := hB.trans hb
  have hE0 := TabE.but hb hg0 hE0
  have q0 := BlkAt.but hb hk1 q0
  have o0 := BlkAt.but hb hk2 o0
  clear hb
  have c3 := o0.cell (j := 3) rfl
  have f3 := o0.froz (j := 3)
  have c4 := o0.cell (j := 4) rfl
  have f4 := o0.froz (j := 4)
  have c5 := o0.cell (j := 5) rfl
  have f5 := o0.froz (j := 5)
  go_wp2_with fail
  clear c3 f3 c4 f4 c5 f5
  have hR := BlkAt.other hR 3 (.string p) hk2'
  have hB := But.setNew hB (w.heap.size + 1) 3 (.string p) (by omega)
  have hE0 : TabE T v _ := ⟨Nat.lt_of_lt_of_le hE0.1 (by simp), (World.cell?_of_block (w := w4) (a := ⟨0, 0, none⟩) (heap_setCell_other w4 ⟨w.heap.size + 1, 3, none⟩ _ (.string p) (by show (0 : Nat) ≠ w.heap.size + 1; have := hEl; omega))).trans hE0.2⟩
  have q0 := BlkAt.other q0 3 (.string p) (show w.heap.size ≠ w.heap.size + 1 by omega)
  have o0 : BlkAt (w.heap.size + 1) #[.int .i64 (f : Nat), .int .i64 (t : Nat), .bool true, .string p, .string ⟨#[]⟩, .int .i64 0, .string ⟨#[]⟩, .int .i64 0, .int .i64 0, .string ⟨#[]⟩] 29 _ := BlkAt.set o0 3 (.string p)
  have hR := BlkAt.other hR 4 (.string q) hk2'
  have hB := But.setNew hB (w.heap.size + 1) 4 (.string q) (by omega)
  have hE0 : TabE T v _ := ⟨Nat.lt_of_lt_of_le hE0.1 (by simp), (World.cell?_of_block (w := (w4.setCell ⟨w.heap.size + 1, 3, none⟩ (.string p))) (a := ⟨0, 0, none⟩) (heap_setCell_other (w4.setCell ⟨w.heap.size + 1, 3, none⟩ (.string p)) ⟨w.heap.size + 1, 4, none⟩ _ (.string q) (by show (0 : Nat) ≠ w.heap.size + 1; have := hEl; omega))).trans hE0.2⟩
  have q0 := BlkAt.other q0 4 (.string q) (show w.heap.size ≠ w.heap.size + 1 by omega)
  have o0 : BlkAt (w.heap.size + 1) #[.int .i64 (f : Nat), .int .i64 (t : Nat), .bool true, .string p, .string q, .int .i64 0, .string ⟨#[]⟩, .int .i64 0, .int .i64 0, .string ⟨#[]⟩] 29 _ := BlkAt.set o0 4 (.string q)
  have hR := BlkAt.other hR 5 (.int .i64 o) hk2'
  have hB := But.setNew hB (w.heap.size + 1) 5 (.int .i64 o) (by omega)
  have hE0 : TabE T v _ := ⟨Nat.lt_of_lt_of_le hE0.1 (by simp), (World.cell?_of_block (w := ((w4.setCell ⟨w.heap.size + 1, 3, none⟩ (.string p)).setCell ⟨w.heap.size + 1, 4, none⟩ (.string q))) (a := ⟨0, 0, none⟩) (heap_setCell_other ((w4.setCell ⟨w.heap.size + 1, 3, none⟩ (.string p)).setCell ⟨w.heap.size + 1, 4, none⟩ (.string q)) ⟨w.heap.size + 1, 5, none⟩ _ (.int .i64 o) (by show (0 : Nat) ≠ w.heap.size + 1; have := hEl; omega))).trans hE0.2⟩
  have q0 := BlkAt.other q0 5 (.int .i64 o) (show w.heap.size ≠ w.heap.size + 1 by omega)
  have o0 : BlkAt (w.heap.size + 1) #[.int .i64 (f : Nat), .int .i64 (t : Nat), .bool true, .string p, .string q, .int .i64 o, .string ⟨#[]⟩, .int .i64 0, .int .i64 0, .string ⟨#[]⟩] 29 _ := BlkAt.set o0 5 (.int .i64 o)
  refine (HM.out _ hR hE0).mono ?_
  rintro e w9 ⟨rfl, hb⟩
  exact ⟨rfl, rfl, hB.trans hb⟩

set_option maxHeartbeats 8000000 in
set_option maxRecDepth 100000 in
theorem envelope_noF6 (g : Nat) (r : ByteArray) (w : World) (T : TypeId) (v : Value) (hE : TabE T v w) (h : RdAt g r w) (hg0 : 0 ≠ g) (hr : r.size ≤ 1048576) (f t : Nat) (hf : numOf (cut r 0 1).data.toList = f) (ht : numOf (cut r 1 2).data.toList = t) (hl : 3 ≤ r.size) (u x y : ByteArray) (a b : Int) (hu : u.size ≤ 1048576) (hx : x.size ≤ 1048576) (hz : numOf (cut r 2 3).data.toList = 0) (HM : ∀ w1 : World, RdAt g (cut r 3 r.size) w1 → TabE T v w1 → Calls Tryd.prog 32 #[.pointer (some ⟨g, 0, none⟩)] w1 fun e w' => e = .returned (.agg (msgA u a b x)) ∧ RdAt g y w' ∧ But g w1 w') (hO : ¬ EnvP f t false ⟨#[]⟩ ⟨#[]⟩ 0 u a b x) :
    Calls Tryd.prog 23 #[.pointer (some ⟨g, 0, none⟩)] w fun e w' => e = panE T v ∧ But g w w' := by
  have hgl := h.lt
  have hEl := hE.1
  have hk1 : w.heap.size ≠ g := by omega
  have hk2 : w.heap.size + 1 ≠ g := by omega
  have hk1' : g ≠ w.heap.size := by omega
  have hk2' : g ≠ w.heap.size + 1 := by omega
  have HS := Lib.hid hr
  clear hr
  have Hf := Lib.hid hf
  have Ht := Lib.hid ht
  clear hf ht
  have HL := Lib.hid hl
  clear hl
  have HZ := Lib.hid hz
  clear hz
  have HM := Lib.hid HM
  have HK := Lib.hid (fun w => envOk_i f t false ⟨#[]⟩ ⟨#[]⟩ 0 u a b x w false (decide_eq_false hO) (Nat.zero_le _) (Nat.zero_le _) (by omega) (by omega))
  clear hO hu hx
  have h0 : RdAt g (cut r 0 r.size) w := by rw [cut_all]; exact h
  go_enter Tryd.func23, Tryd.ntmps23
  go_wp2_with fail
  have e1 : (w.alloc (.cells zeroE 29)).heap.size = w.heap.size + 1 := by simp
  have hB : But g w ((w.alloc (.cells zeroE 29)).alloc (.cells zeroE 29)) := ((But.refl g w).alloc _).alloc _
  have hR := (h0.past (.cells zeroE 29)).past (.cells zeroE 29)
  have hE0 : TabE T v ((w.alloc (.cells zeroE 29)).alloc (.cells zeroE 29)) := TabE.but hB hg0 hE
  have q0 : BlkAt w.heap.size zeroE 29 ((w.alloc (.cells zeroE 29)).alloc (.cells zeroE 29)) := (BlkAt.box _ _ _).past _
  have o0 : BlkAt (w.heap.size + 1) zeroE 29 ((w.alloc (.cells zeroE 29)).alloc (.cells zeroE 29)) := by rw [← e1]; exact BlkAt.box _ _ _
  clear e1
  refine (number_at g r 0 1 _ hR (by have := HL.out; omega) HS.out (by omega) (by omega)).mono ?_
  rintro e w1 ⟨rfl, hR, hb⟩
  have hB := hB.trans hb
  have hE0 := TabE.but hb hg0 hE0
  have q0 := BlkAt.but hb hk1 q0
  have o0 := BlkAt.but hb hk2 o0
  clear hb
  have e0 : numOf (cut r 0 (0 + 1)).data.toList = f := Hf.out
  try rw [e0]
  clear e0
  have c0 := o0.cell (j := 0) rfl
  have f0 := o0.froz (j := 0)
  go_wp2_with fail
  clear c0 f0
  have hR := BlkAt.other hR 0 (.int .i64 (f : Nat)) hk2'
  have hB := But.setNew hB (w.heap.size + 1) 0 (.int .i64 (f : Nat)) (by omega)
  have hE0 : TabE T v _ := ⟨Nat.lt_of_lt_of_le hE0.1 (by simp), (World.cell?_of_block (w := w1) (a := ⟨0, 0, none⟩) (heap_setCell_other w1 ⟨w.heap.size + 1, 0, none⟩ _ (.int .i64 (f : Nat)) (by show (0 : Nat) ≠ w.heap.size + 1; have := hEl; omega))).trans hE0.2⟩
  have q0 := BlkAt.other q0 0 (.int .i64 (f : Nat)) (show w.heap.size ≠ w.heap.size + 1 by omega)
  have o0 : BlkAt (w.heap.size + 1) #[.int .i64 (f : Nat), .int .i64 0, .bool false, .string ⟨#[]⟩, .string ⟨#[]⟩, .int .i64 0, .string ⟨#[]⟩, .int .i64 0, .int .i64 0, .string ⟨#[]⟩] 29 _ := BlkAt.set o0 0 (.int .i64 (f : Nat))
  refine (number_at g r 1 1 _ hR (by have := HL.out; omega) HS.out (by omega) (by omega)).mono ?_
  rintro e w2 ⟨rfl, hR, hb⟩
  have hB := hB.trans hb
  have hE0 := TabE.but hb hg0 hE0
  have q0 := BlkAt.but hb hk1 q0
  have o0 := BlkAt.but hb hk2 o0
  clear hb
  have e0 : numOf (cut r 1 (1 + 1)).data.toList = t := Ht.out
  try rw [e0]
  clear e0
  have c1 := o0.cell (j := 1) rfl
  have f1 := o0.froz (j := 1)
  go_wp2_with fail
  clear c1 f1
  have hR := BlkAt.other hR 1 (.int .i64 (t : Nat)) hk2'
  have hB := But.setNew hB (w.heap.size + 1) 1 (.int .i64 (t : Nat)) (by omega)
  have hE0 : TabE T v _ := ⟨Nat.lt_of_lt_of_le hE0.1 (by simp), (World.cell?_of_block (w := w2) (a := ⟨0, 0, none⟩) (heap_setCell_other w2 ⟨w.heap.size + 1, 1, none⟩ _ (.int .i64 (t : Nat)) (by show (0 : Nat) ≠ w.heap.size + 1; have := hEl; omega))).trans hE0.2⟩
  have q0 := BlkAt.other q0 1 (.int .i64 (t : Nat)) (show w.heap.size ≠ w.heap.size + 1 by omega)
  have o0 : BlkAt (w.heap.size + 1) #[.int .i64 (f : Nat), .int .i64 (t : Nat), .bool false, .string ⟨#[]⟩, .string ⟨#[]⟩, .int .i64 0, .string ⟨#[]⟩, .int .i64 0, .int .i64 0, .string ⟨#[]⟩] 29 _ := BlkAt.set o0 1 (.int .i64 (t : Nat))
  refine (flag_false g r 2 _ hR (by have := HL.out; omega) HS.out HZ.out).mono ?_
  rintro e w3 ⟨rfl, hR, hb⟩
  have hB := hB.trans hb
  have hE0 := TabE.but hb hg0 hE0
  have q0 := BlkAt.but hb hk1 q0
  have o0 := BlkAt.but hb hk2 o0
  clear hb
  have c2 := o0.cell (j := 2) rfl
  have f2 := o0.froz (j := 2)
  go_wp2_with fail
  clear c2 f2
  have hR := BlkAt.other hR 2 (.bool false) hk2'
  have hB := But.setNew hB (w.heap.size + 1) 2 (.bool false) (by omega)
  have hE0 : TabE T v _ := ⟨Nat.lt_of_lt_of_le hE0.1 (by simp), (World.cell?_of_block (w := w3) (a := ⟨0, 0, none⟩) (heap_setCell_other w3 ⟨w.heap.size + 1, 2, none⟩ _ (.bool false) (by show (0 : Nat) ≠ w.heap.size + 1; have := hEl; omega))).trans hE0.2⟩
  have q0 := BlkAt.other q0 2 (.bool false) (show w.heap.size ≠ w.heap.size + 1 by omega)
  have o0 : BlkAt (w.heap.size + 1) #[.int .i64 (f : Nat), .int .i64 (t : Nat), .bool false, .string ⟨#[]⟩, .string ⟨#[]⟩, .int .i64 0, .string ⟨#[]⟩, .int .i64 0, .int .i64 0, .string ⟨#[]⟩] 29 _ := BlkAt.set o0 2 (.bool false)
  refine (HM.out _ hR hE0).mono ?_
  rintro e w5 ⟨rfl, hR, hb⟩
  have hB := hB.trans hb
  have hE0 := TabE.but hb hg0 hE0
  have q0 := BlkAt.but hb hk1 q0
  have o0 := BlkAt.but hb hk2 o0
  clear hb
  have c6 := o0.cell (j := 6) rfl
  have f6 := o0.froz (j := 6)
  have c7 := o0.cell (j := 7) rfl
  have f7 := o0.froz (j := 7)
  have c8 := o0.cell (j := 8) rfl
  have f8 := o0.froz (j := 8)
  have c9 := o0.cell (j := 9) rfl
  have f9 := o0.froz (j := 9)
  have c0 := o0.cell (j := 0) rfl
  have c1 := o0.cell (j := 1) rfl
  have c2 := o0.cell (j := 2) rfl
  have c3 := o0.cell (j := 3) rfl
  have c4 := o0.cell (j := 4) rfl
  have c5 := o0.cell (j := 5) rfl
  go_wp2_with fail
  clear c6 f6 c7 f7 c8 f8 c9 f9 c0 c1 c2 c3 c4 c5
  have hR := BlkAt.other hR 6 (.string u) hk2'
  have hB := But.setNew hB (w.heap.size + 1) 6 (.string u) (by omega)
  have hE0 : TabE T v _ := ⟨Nat.lt_of_lt_of_le hE0.1 (by simp), (World.cell?_of_block (w := w5) (a := ⟨0, 0, none⟩) (heap_setCell_other w5 ⟨w.heap.size + 1, 6, none⟩ _ (.string u) (by show (0 : Nat) ≠ w.heap.size + 1; have := hEl; omega))).trans hE0.2⟩
  have q0 := BlkAt.other q0 6 (.string u) (show w.heap.size ≠ w.heap.size + 1 by omega)
  have o0 : BlkAt (w.heap.size + 1) #[.int .i64 (f : Nat), .int .i64 (t : Nat), .bool false, .string ⟨#[]⟩, .string ⟨#[]⟩, .int .i64 0, .string u, .int .i64 0, .int .i64 0, .string ⟨#[]⟩] 29 _ := BlkAt.set o0 6 (.string u)
  have hR := BlkAt.other hR 7 (.int .i64 a) hk2'
  have hB := But.setNew hB (w.heap.size + 1) 7 (.int .i64 a) (by omega)
  have hE0 : TabE T v _ := ⟨Nat.lt_of_lt_of_le hE0.1 (by simp), (World.cell?_of_block (w := (w5.setCell ⟨w.heap.size + 1, 6, none⟩ (.string u))) (a := ⟨0, 0, none⟩) (heap_setCell_other (w5.setCell ⟨w.heap.size + 1, 6, none⟩ (.string u)) ⟨w.heap.size + 1, 7, none⟩ _ (.int .i64 a) (by show (0 : Nat) ≠ w.heap.size + 1; have := hEl; omega))).trans hE0.2⟩
  have q0 := BlkAt.other q0 7 (.int .i64 a) (show w.heap.size ≠ w.heap.size + 1 by omega)
  have o0 : BlkAt (w.heap.size + 1) #[.int .i64 (f : Nat), .int .i64 (t : Nat), .bool false, .string ⟨#[]⟩, .string ⟨#[]⟩, .int .i64 0, .string u, .int .i64 a, .int .i64 0, .string ⟨#[]⟩] 29 _ := BlkAt.set o0 7 (.int .i64 a)
  have hR := BlkAt.other hR 8 (.int .i64 b) hk2'
  have hB := But.setNew hB (w.heap.size + 1) 8 (.int .i64 b) (by omega)
  have hE0 : TabE T v _ := ⟨Nat.lt_of_lt_of_le hE0.1 (by simp), (World.cell?_of_block (w := ((w5.setCell ⟨w.heap.size + 1, 6, none⟩ (.string u)).setCell ⟨w.heap.size + 1, 7, none⟩ (.int .i64 a))) (a := ⟨0, 0, none⟩) (heap_setCell_other ((w5.setCell ⟨w.heap.size + 1, 6, none⟩ (.string u)).setCell ⟨w.heap.size + 1, 7, none⟩ (.int .i64 a)) ⟨w.heap.size + 1, 8, none⟩ _ (.int .i64 b) (by show (0 : Nat) ≠ w.heap.size + 1; have := hEl; omega))).trans hE0.2⟩
  have q0 := BlkAt.other q0 8 (.int .i64 b) (show w.heap.size ≠ w.heap.size + 1 by omega)
  have o0 : BlkAt (w.heap.size + 1) #[.int .i64 (f : Nat), .int .i64 (t : Nat), .bool false, .string ⟨#[]⟩, .string ⟨#[]⟩, .int .i64 0, .string u, .int .i64 a, .int .i64 b, .string ⟨#[]⟩] 29 _ := BlkAt.set o0 8 (.int .i64 b)
  have hR := BlkAt.other hR 9 (.string x) hk2'
  have hB := But.setNew hB (w.heap.size + 1) 9 (.string x) (by omega)
  have hE0 : TabE T v _ := ⟨Nat.lt_of_lt_of_le hE0.1 (by simp), (World.cell?_of_block (w := (((w5.setCell ⟨w.heap.size + 1, 6, none⟩ (.string u)).setCell ⟨w.heap.size + 1, 7, none⟩ (.int .i64 a)).setCell ⟨w.heap.size + 1, 8, none⟩ (.int .i64 b))) (a := ⟨0, 0, none⟩) (heap_setCell_other (((w5.setCell ⟨w.heap.size + 1, 6, none⟩ (.string u)).setCell ⟨w.heap.size + 1, 7, none⟩ (.int .i64 a)).setCell ⟨w.heap.size + 1, 8, none⟩ (.int .i64 b)) ⟨w.heap.size + 1, 9, none⟩ _ (.string x) (by show (0 : Nat) ≠ w.heap.size + 1; have := hEl; omega))).trans hE0.2⟩
  have q0 := BlkAt.other q0 9 (.string x) (show w.heap.size ≠ w.heap.size + 1 by omega)
  have o0 : BlkAt (w.heap.size + 1) #[.int .i64 (f : Nat), .int .i64 (t : Nat), .bool false, .string ⟨#[]⟩, .string ⟨#[]⟩, .int .i64 0, .string u, .int .i64 a, .int .i64 b, .string x] 29 _ := BlkAt.set o0 9 (.string x)
  refine (HK.out _).mono ?_
  rintro e w6 ⟨rfl, hb⟩
  have hB := hB.trans (But.of_below hb)
  have hE0 := TabE.below hb hE0
  have hR := BlkAt.below hb hR
  have q0 := BlkAt.below hb q0
  have o0 := BlkAt.below hb o0
  clear hb
  go_wp2_with fail
  refine (need_no g _ T v hE0).mono ?_
  rintro e w9 ⟨rfl, rfl⟩
  exact ⟨rfl, rfl, hB⟩

set_option maxHeartbeats 8000000 in
set_option maxRecDepth 100000 in
theorem envelope_yesF (g : Nat) (r : ByteArray) (w : World) (T : TypeId) (v : Value) (hE : TabE T v w) (h : RdAt g r w) (hg0 : 0 ≠ g) (hr : r.size ≤ 1048576) (f t : Nat) (hf : numOf (cut r 0 1).data.toList = f) (ht : numOf (cut r 1 2).data.toList = t) (hl : 3 ≤ r.size) (u x y : ByteArray) (a b : Int) (hu : u.size ≤ 1048576) (hx : x.size ≤ 1048576) (hz : numOf (cut r 2 3).data.toList = 0) (HM : ∀ w1 : World, RdAt g (cut r 3 r.size) w1 → TabE T v w1 → Calls Tryd.prog 32 #[.pointer (some ⟨g, 0, none⟩)] w1 fun e w' => e = .returned (.agg (msgA u a b x)) ∧ RdAt g y w' ∧ But g w1 w') (hO : EnvP f t false ⟨#[]⟩ ⟨#[]⟩ 0 u a b x) :
    Calls Tryd.prog 23 #[.pointer (some ⟨g, 0, none⟩)] w fun e w' => e = .returned (.agg (envA f t false ⟨#[]⟩ ⟨#[]⟩ 0 u a b x)) ∧ RdAt g y w' ∧ But g w w' := by
  have hgl := h.lt
  have hEl := hE.1
  have hk1 : w.heap.size ≠ g := by omega
  have hk2 : w.heap.size + 1 ≠ g := by omega
  have hk1' : g ≠ w.heap.size := by omega
  have hk2' : g ≠ w.heap.size + 1 := by omega
  have HS := Lib.hid hr
  clear hr
  have Hf := Lib.hid hf
  have Ht := Lib.hid ht
  clear hf ht
  have HL := Lib.hid hl
  clear hl
  have HZ := Lib.hid hz
  clear hz
  have HM := Lib.hid HM
  have HK := Lib.hid (fun w => envOk_i f t false ⟨#[]⟩ ⟨#[]⟩ 0 u a b x w true (decide_eq_true hO) (Nat.zero_le _) (Nat.zero_le _) (by omega) (by omega))
  clear hO hu hx
  have h0 : RdAt g (cut r 0 r.size) w := by rw [cut_all]; exact h
  go_enter Tryd.func23, Tryd.ntmps23
  go_wp2_with fail
  have e1 : (w.alloc (.cells zeroE 29)).heap.size = w.heap.size + 1 := by simp
  have hB : But g w ((w.alloc (.cells zeroE 29)).alloc (.cells zeroE 29)) := ((But.refl g w).alloc _).alloc _
  have hR := (h0.past (.cells zeroE 29)).past (.cells zeroE 29)
  have hE0 : TabE T v ((w.alloc (.cells zeroE 29)).alloc (.cells zeroE 29)) := TabE.but hB hg0 hE
  have q0 : BlkAt w.heap.size zeroE 29 ((w.alloc (.cells zeroE 29)).alloc (.cells zeroE 29)) := (BlkAt.box _ _ _).past _
  have o0 : BlkAt (w.heap.size + 1) zeroE 29 ((w.alloc (.cells zeroE 29)).alloc (.cells zeroE 29)) := by rw [← e1]; exact BlkAt.box _ _ _
  clear e1
  refine (number_at g r 0 1 _ hR (by have := HL.out; omega) HS.out (by omega) (by omega)).mono ?_
  rintro e w1 ⟨rfl, hR, hb⟩
  have hB := hB.trans hb
  have hE0 := TabE.but hb hg0 hE0
  have q0 := BlkAt.but hb hk1 q0
  have o0 := BlkAt.but hb hk2 o0
  clear hb
  have e0 : numOf (cut r 0 (0 + 1)).data.toList = f := Hf.out
  try rw [e0]
  clear e0
  have c0 := o0.cell (j := 0) rfl
  have f0 := o0.froz (j := 0)
  go_wp2_with fail
  clear c0 f0
  have hR := BlkAt.other hR 0 (.int .i64 (f : Nat)) hk2'
  have hB := But.setNew hB (w.heap.size + 1) 0 (.int .i64 (f : Nat)) (by omega)
  have hE0 : TabE T v _ := ⟨Nat.lt_of_lt_of_le hE0.1 (by simp), (World.cell?_of_block (w := w1) (a := ⟨0, 0, none⟩) (heap_setCell_other w1 ⟨w.heap.size + 1, 0, none⟩ _ (.int .i64 (f : Nat)) (by show (0 : Nat) ≠ w.heap.size + 1; have := hEl; omega))).trans hE0.2⟩
  have q0 := BlkAt.other q0 0 (.int .i64 (f : Nat)) (show w.heap.size ≠ w.heap.size + 1 by omega)
  have o0 : BlkAt (w.heap.size + 1) #[.int .i64 (f : Nat), .int .i64 0, .bool false, .string ⟨#[]⟩, .string ⟨#[]⟩, .int .i64 0, .string ⟨#[]⟩, .int .i64 0, .int .i64 0, .string ⟨#[]⟩] 29 _ := BlkAt.set o0 0 (.int .i64 (f : Nat))
  refine (number_at g r 1 1 _ hR (by have := HL.out; omega) HS.out (by omega) (by omega)).mono ?_
  rintro e w2 ⟨rfl, hR, hb⟩
  have hB := hB.trans hb
  have hE0 := TabE.but hb hg0 hE0
  have q0 := BlkAt.but hb hk1 q0
  have o0 := BlkAt.but hb hk2 o0
  clear hb
  have e0 : numOf (cut r 1 (1 + 1)).data.toList = t := Ht.out
  try rw [e0]
  clear e0
  have c1 := o0.cell (j := 1) rfl
  have f1 := o0.froz (j := 1)
  go_wp2_with fail
  clear c1 f1
  have hR := BlkAt.other hR 1 (.int .i64 (t : Nat)) hk2'
  have hB := But.setNew hB (w.heap.size + 1) 1 (.int .i64 (t : Nat)) (by omega)
  have hE0 : TabE T v _ := ⟨Nat.lt_of_lt_of_le hE0.1 (by simp), (World.cell?_of_block (w := w2) (a := ⟨0, 0, none⟩) (heap_setCell_other w2 ⟨w.heap.size + 1, 1, none⟩ _ (.int .i64 (t : Nat)) (by show (0 : Nat) ≠ w.heap.size + 1; have := hEl; omega))).trans hE0.2⟩
  have q0 := BlkAt.other q0 1 (.int .i64 (t : Nat)) (show w.heap.size ≠ w.heap.size + 1 by omega)
  have o0 : BlkAt (w.heap.size + 1) #[.int .i64 (f : Nat), .int .i64 (t : Nat), .bool false, .string ⟨#[]⟩, .string ⟨#[]⟩, .int .i64 0, .string ⟨#[]⟩, .int .i64 0, .int .i64 0, .string ⟨#[]⟩] 29 _ := BlkAt.set o0 1 (.int .i64 (t : Nat))
  refine (flag_false g r 2 _ hR (by have := HL.out; omega) HS.out HZ.out).mono ?_
  rintro e w3 ⟨rfl, hR, hb⟩
  have hB := hB.trans hb
  have hE0 := TabE.but hb hg0 hE0
  have q0 := BlkAt.but hb hk1 q0
  have o0 := BlkAt.but hb hk2 o0
  clear hb
  have c2 := o0.cell (j := 2) rfl
  have f2 := o0.froz (j := 2)
  go_wp2_with fail
  clear c2 f2
  have hR := BlkAt.other hR 2 (.bool false) hk2'
  have hB := But.setNew hB (w.heap.size + 1) 2 (.bool false) (by omega)
  have hE0 : TabE T v _ := ⟨Nat.lt_of_lt_of_le hE0.1 (by simp), (World.cell?_of_block (w := w3) (a := ⟨0, 0, none⟩) (heap_setCell_other w3 ⟨w.heap.size + 1, 2, none⟩ _ (.bool false) (by show (0 : Nat) ≠ w.heap.size + 1; have := hEl; omega))).trans hE0.2⟩
  have q0 := BlkAt.other q0 2 (.bool false) (show w.heap.size ≠ w.heap.size + 1 by omega)
  have o0 : BlkAt (w.heap.size + 1) #[.int .i64 (f : Nat), .int .i64 (t : Nat), .bool false, .string ⟨#[]⟩, .string ⟨#[]⟩, .int .i64 0, .string ⟨#[]⟩, .int .i64 0, .int .i64 0, .string ⟨#[]⟩] 29 _ := BlkAt.set o0 2 (.bool false)
  refine (HM.out _ hR hE0).mono ?_
  rintro e w5 ⟨rfl, hR, hb⟩
  have hB := hB.trans hb
  have hE0 := TabE.but hb hg0 hE0
  have q0 := BlkAt.but hb hk1 q0
  have o0 := BlkAt.but hb hk2 o0
  clear hb
  have c6 := o0.cell (j := 6) rfl
  have f6 := o0.froz (j := 6)
  have c7 := o0.cell (j := 7) rfl
  have f7 := o0.froz (j := 7)
  have c8 := o0.cell (j := 8) rfl
  have f8 := o0.froz (j := 8)
  have c9 := o0.cell (j := 9) rfl
  have f9 := o0.froz (j := 9)
  have c0 := o0.cell (j := 0) rfl
  have c1 := o0.cell (j := 1) rfl
  have c2 := o0.cell (j := 2) rfl
  have c3 := o0.cell (j := 3) rfl
  have c4 := o0.cell (j := 4) rfl
  have c5 := o0.cell (j := 5) rfl
  go_wp2_with fail
  clear c6 f6 c7 f7 c8 f8 c9 f9 c0 c1 c2 c3 c4 c5
  have hR := BlkAt.other hR 6 (.string u) hk2'
  have hB := But.setNew hB (w.heap.size + 1) 6 (.string u) (by omega)
  have hE0 : TabE T v _ := ⟨Nat.lt_of_lt_of_le hE0.1 (by simp), (World.cell?_of_block (w := w5) (a := ⟨0, 0, none⟩) (heap_setCell_other w5 ⟨w.heap.size + 1, 6, none⟩ _ (.string u) (by show (0 : Nat) ≠ w.heap.size + 1; have := hEl; omega))).trans hE0.2⟩
  have q0 := BlkAt.other q0 6 (.string u) (show w.heap.size ≠ w.heap.size + 1 by omega)
  have o0 : BlkAt (w.heap.size + 1) #[.int .i64 (f : Nat), .int .i64 (t : Nat), .bool false, .string ⟨#[]⟩, .string ⟨#[]⟩, .int .i64 0, .string u, .int .i64 0, .int .i64 0, .string ⟨#[]⟩] 29 _ := BlkAt.set o0 6 (.string u)
  have hR := BlkAt.other hR 7 (.int .i64 a) hk2'
  have hB := But.setNew hB (w.heap.size + 1) 7 (.int .i64 a) (by omega)
  have hE0 : TabE T v _ := ⟨Nat.lt_of_lt_of_le hE0.1 (by simp), (World.cell?_of_block (w := (w5.setCell ⟨w.heap.size + 1, 6, none⟩ (.string u))) (a := ⟨0, 0, none⟩) (heap_setCell_other (w5.setCell ⟨w.heap.size + 1, 6, none⟩ (.string u)) ⟨w.heap.size + 1, 7, none⟩ _ (.int .i64 a) (by show (0 : Nat) ≠ w.heap.size + 1; have := hEl; omega))).trans hE0.2⟩
  have q0 := BlkAt.other q0 7 (.int .i64 a) (show w.heap.size ≠ w.heap.size + 1 by omega)
  have o0 : BlkAt (w.heap.size + 1) #[.int .i64 (f : Nat), .int .i64 (t : Nat), .bool false, .string ⟨#[]⟩, .string ⟨#[]⟩, .int .i64 0, .string u, .int .i64 a, .int .i64 0, .string ⟨#[]⟩] 29 _ := BlkAt.set o0 7 (.int .i64 a)
  have hR := BlkAt.other hR 8 (.int .i64 b) hk2'
  have hB := But.setNew hB (w.heap.size + 1) 8 (.int .i64 b) (by omega)
  have hE0 : TabE T v _ := ⟨Nat.lt_of_lt_of_le hE0.1 (by simp), (World.cell?_of_block (w := ((w5.setCell ⟨w.heap.size + 1, 6, none⟩ (.string u)).setCell ⟨w.heap.size + 1, 7, none⟩ (.int .i64 a))) (a := ⟨0, 0, none⟩) (heap_setCell_other ((w5.setCell ⟨w.heap.size + 1, 6, none⟩ (.string u)).setCell ⟨w.heap.size + 1, 7, none⟩ (.int .i64 a)) ⟨w.heap.size + 1, 8, none⟩ _ (.int .i64 b) (by show (0 : Nat) ≠ w.heap.size + 1; have := hEl; omega))).trans hE0.2⟩
  have q0 := BlkAt.other q0 8 (.int .i64 b) (show w.heap.size ≠ w.heap.size + 1 by omega)
  have o0 : BlkAt (w.heap.size + 1) #[.int .i64 (f : Nat), .int .i64 (t : Nat), .bool false, .string ⟨#[]⟩, .string ⟨#[]⟩, .int .i64 0, .string u, .int .i64 a, .int .i64 b, .string ⟨#[]⟩] 29 _ := BlkAt.set o0 8 (.int .i64 b)
  have hR := BlkAt.other hR 9 (.string x) hk2'
  have hB := But.setNew hB (w.heap.size + 1) 9 (.string x) (by omega)
  have hE0 : TabE T v _ := ⟨Nat.lt_of_lt_of_le hE0.1 (by simp), (World.cell?_of_block (w := (((w5.setCell ⟨w.heap.size + 1, 6, none⟩ (.string u)).setCell ⟨w.heap.size + 1, 7, none⟩ (.int .i64 a)).setCell ⟨w.heap.size + 1, 8, none⟩ (.int .i64 b))) (a := ⟨0, 0, none⟩) (heap_setCell_other (((w5.setCell ⟨w.heap.size + 1, 6, none⟩ (.string u)).setCell ⟨w.heap.size + 1, 7, none⟩ (.int .i64 a)).setCell ⟨w.heap.size + 1, 8, none⟩ (.int .i64 b)) ⟨w.heap.size + 1, 9, none⟩ _ (.string x) (by show (0 : Nat) ≠ w.heap.size + 1; have := hEl; omega))).trans hE0.2⟩
  have q0 := BlkAt.other q0 9 (.string x) (show w.heap.size ≠ w.heap.size + 1 by omega)
  have o0 : BlkAt (w.heap.size + 1) #[.int .i64 (f : Nat), .int .i64 (t : Nat), .bool false, .string ⟨#[]⟩, .string ⟨#[]⟩, .int .i64 0, .string u, .int .i64 a, .int .i64 b, .string x] 29 _ := BlkAt.set o0 9 (.string x)
  refine (HK.out _).mono ?_
  rintro e w6 ⟨rfl, hb⟩
  have hB := hB.trans (But.of_below hb)
  have hE0 := TabE.below hb hE0
  have hR := BlkAt.below hb hR
  have q0 := BlkAt.below hb q0
  have o0 := BlkAt.below hb o0
  clear hb
  go_wp2_with fail
  refine (need_yes g _).mono ?_
  rintro e w9 ⟨rfl, rfl⟩
  have c0 := o0.cell (j := 0) rfl
  have d0 := q0.cell (j := 0) rfl
  have f0 := q0.froz (j := 0)
  have c1 := o0.cell (j := 1) rfl
  have d1 := q0.cell (j := 1) rfl
  have f1 := q0.froz (j := 1)
  have c2 := o0.cell (j := 2) rfl
  have d2 := q0.cell (j := 2) rfl
  have f2 := q0.froz (j := 2)
  have c3 := o0.cell (j := 3) rfl
  have d3 := q0.cell (j := 3) rfl
  have f3 := q0.froz (j := 3)
  have c4 := o0.cell (j := 4) rfl
  have d4 := q0.cell (j := 4) rfl
  have f4 := q0.froz (j := 4)
  have c5 := o0.cell (j := 5) rfl
  have d5 := q0.cell (j := 5) rfl
  have f5 := q0.froz (j := 5)
  have c6 := o0.cell (j := 6) rfl
  have d6 := q0.cell (j := 6) rfl
  have f6 := q0.froz (j := 6)
  have c7 := o0.cell (j := 7) rfl
  have d7 := q0.cell (j := 7) rfl
  have f7 := q0.froz (j := 7)
  have c8 := o0.cell (j := 8) rfl
  have d8 := q0.cell (j := 8) rfl
  have f8 := q0.froz (j := 8)
  have c9 := o0.cell (j := 9) rfl
  have d9 := q0.cell (j := 9) rfl
  have f9 := q0.froz (j := 9)
  go_wp2
  refine bodyPost_ret (v := .agg #[.int .i64 (f : Nat), .int .i64 (t : Nat), .bool false, .string ⟨#[]⟩, .string ⟨#[]⟩, .int .i64 0, .string u, .int .i64 a, .int .i64 b, .string x]) (by simp [results, Tryd.results23, go_sem, *]) rfl ⟨rfl, ?_, ?_⟩
  · exact ((((((((((hR.other 0 _ hk1').other 1 _ hk1').other 2 _ hk1').other 3 _ hk1').other 4 _ hk1').other 5 _ hk1').other 6 _ hk1').other 7 _ hk1').other 8 _ hk1').other 9 _ hk1')
  · exact ((((((((((hB.setNew _ 0 _ (Nat.le_refl _)).setNew _ 1 _ (Nat.le_refl _)).setNew _ 2 _ (Nat.le_refl _)).setNew _ 3 _ (Nat.le_refl _)).setNew _ 4 _ (Nat.le_refl _)).setNew _ 5 _ (Nat.le_refl _)).setNew _ 6 _ (Nat.le_refl _)).setNew _ 7 _ (Nat.le_refl _)).setNew _ 8 _ (Nat.le_refl _)).setNew _ 9 _ (Nat.le_refl _))

set_option maxHeartbeats 8000000 in
set_option maxRecDepth 100000 in
theorem envelope_noT6 (g : Nat) (r : ByteArray) (w : World) (T : TypeId) (v : Value) (hE : TabE T v w) (h : RdAt g r w) (hg0 : 0 ≠ g) (hr : r.size ≤ 1048576) (f t : Nat) (hf : numOf (cut r 0 1).data.toList = f) (ht : numOf (cut r 1 2).data.toList = t) (hl : 3 ≤ r.size) (p q : ByteArray) (o : Int) (hp : p.size ≤ 1048576) (hq : q.size ≤ 1048576) (u x y : ByteArray) (a b : Int) (hu : u.size ≤ 1048576) (hx : x.size ≤ 1048576) (hz : numOf (cut r 2 3).data.toList = 1) (HI : ∀ w1 : World, RdAt g (cut r 3 r.size) w1 → TabE T v w1 → Calls Tryd.prog 46 #[.pointer (some ⟨g, 0, none⟩)] w1 fun e w' => e = .returned (.agg (initA p q o)) ∧ RdAt g (cut r 69 r.size) w' ∧ But g w1 w') (HM : ∀ w1 : World, RdAt g (cut r 69 r.size) w1 → TabE T v w1 → Calls Tryd.prog 32 #[.pointer (some ⟨g, 0, none⟩)] w1 fun e w' => e = .returned (.agg (msgA u a b x)) ∧ RdAt g y w' ∧ But g w1 w') (hO : ¬ EnvP f t true p q o u a b x) :
    Calls Tryd.prog 23 #[.pointer (some ⟨g, 0, none⟩)] w fun e w' => e = panE T v ∧ But g w w' := by
  have hgl := h.lt
  have hEl := hE.1
  have hk1 : w.heap.size ≠ g := by omega
  have hk2 : w.heap.size + 1 ≠ g := by omega
  have hk1' : g ≠ w.heap.size := by omega
  have hk2' : g ≠ w.heap.size + 1 := by omega
  have HS := Lib.hid hr
  clear hr
  have Hf := Lib.hid hf
  have Ht := Lib.hid ht
  clear hf ht
  have HL := Lib.hid hl
  clear hl
  have HZ := Lib.hid hz
  clear hz
  have HM := Lib.hid HM
  have HI := Lib.hid HI
  have HK := Lib.hid (fun w => envOk_i f t true p q o u a b x w false (decide_eq_false hO) (by omega) (by omega) (by omega) (by omega))
  clear hO hu hx hp hq
  have h0 : RdAt g (cut r 0 r.size) w := by rw [cut_all]; exact h
  go_enter Tryd.func23, Tryd.ntmps23
  go_wp2_with fail
  have e1 : (w.alloc (.cells zeroE 29)).heap.size = w.heap.size + 1 := by simp
  have hB : But g w ((w.alloc (.cells zeroE 29)).alloc (.cells zeroE 29)) := ((But.refl g w).alloc _).alloc _
  have hR := (h0.past (.cells zeroE 29)).past (.cells zeroE 29)
  have hE0 : TabE T v ((w.alloc (.cells zeroE 29)).alloc (.cells zeroE 29)) := TabE.but hB hg0 hE
  have q0 : BlkAt w.heap.size zeroE 29 ((w.alloc (.cells zeroE 29)).alloc (.cells zeroE 29)) := (BlkAt.box _ _ _).past _
  have o0 : BlkAt (w.heap.size + 1) zeroE 29 ((w.alloc (.cells zeroE 29)).alloc (.cells zeroE 29)) := by rw [← e1]; exact BlkAt.box _ _ _
  clear e1
  refine (number_at g r 0 1 _ hR (by have := HL.out; omega) HS.out (by omega) (by omega)).mono ?_
  rintro e w1 ⟨rfl, hR, hb⟩
  have hB := hB.trans hb
  have hE0 := TabE.but hb hg0 hE0
  have q0 := BlkAt.but hb hk1 q0
  have o0 := BlkAt.but hb hk2 o0
  clear hb
  have e0 : numOf (cut r 0 (0 + 1)).data.toList = f := Hf.out
  try rw [e0]
  clear e0
  have c0 := o0.cell (j := 0) rfl
  have f0 := o0.froz (j := 0)
  go_wp2_with fail
  clear c0 f0
  have hR := BlkAt.other hR 0 (.int .i64 (f : Nat)) hk2'
  have hB := But.setNew hB (w.heap.size + 1) 0 (.int .i64 (f : Nat)) (by omega)
  have hE0 : TabE T v _ := ⟨Nat.lt_of_lt_of_le hE0.1 (by simp), (World.cell?_of_block (w := w1) (a := ⟨0, 0, none⟩) (heap_setCell_other w1 ⟨w.heap.size + 1, 0, none⟩ _ (.int .i64 (f : Nat)) (by show (0 : Nat) ≠ w.heap.size + 1; have := hEl; omega))).trans hE0.2⟩
  have q0 := BlkAt.other q0 0 (.int .i64 (f : Nat)) (show w.heap.size ≠ w.heap.size + 1 by omega)
  have o0 : BlkAt (w.heap.size + 1) #[.int .i64 (f : Nat), .int .i64 0, .bool false, .string ⟨#[]⟩, .string ⟨#[]⟩, .int .i64 0, .string ⟨#[]⟩, .int .i64 0, .int .i64 0, .string ⟨#[]⟩] 29 _ := BlkAt.set o0 0 (.int .i64 (f : Nat))
  refine (number_at g r 1 1 _ hR (by have := HL.out; omega) HS.out (by omega) (by omega)).mono ?_
  rintro e w2 ⟨rfl, hR, hb⟩
  have hB := hB.trans hb
  have hE0 := TabE.but hb hg0 hE0
  have q0 := BlkAt.but hb hk1 q0
  have o0 := BlkAt.but hb hk2 o0
  clear hb
  have e0 : numOf (cut r 1 (1 + 1)).data.toList = t := Ht.out
  try rw [e0]
  clear e0
  have c1 := o0.cell (j := 1) rfl
  have f1 := o0.froz (j := 1)
  go_wp2_with fail
  clear c1 f1
  have hR := BlkAt.other hR 1 (.int .i64 (t : Nat)) hk2'
  have hB := But.setNew hB (w.heap.size + 1) 1 (.int .i64 (t : Nat)) (by omega)
  have hE0 : TabE T v _ := ⟨Nat.lt_of_lt_of_le hE0.1 (by simp), (World.cell?_of_block (w := w2) (a := ⟨0, 0, none⟩) (heap_setCell_other w2 ⟨w.heap.size + 1, 1, none⟩ _ (.int .i64 (t : Nat)) (by show (0 : Nat) ≠ w.heap.size + 1; have := hEl; omega))).trans hE0.2⟩
  have q0 := BlkAt.other q0 1 (.int .i64 (t : Nat)) (show w.heap.size ≠ w.heap.size + 1 by omega)
  have o0 : BlkAt (w.heap.size + 1) #[.int .i64 (f : Nat), .int .i64 (t : Nat), .bool false, .string ⟨#[]⟩, .string ⟨#[]⟩, .int .i64 0, .string ⟨#[]⟩, .int .i64 0, .int .i64 0, .string ⟨#[]⟩] 29 _ := BlkAt.set o0 1 (.int .i64 (t : Nat))
  refine (flag_true g r 2 _ hR (by have := HL.out; omega) HS.out HZ.out).mono ?_
  rintro e w3 ⟨rfl, hR, hb⟩
  have hB := hB.trans hb
  have hE0 := TabE.but hb hg0 hE0
  have q0 := BlkAt.but hb hk1 q0
  have o0 := BlkAt.but hb hk2 o0
  clear hb
  have c2 := o0.cell (j := 2) rfl
  have f2 := o0.froz (j := 2)
  go_wp2_with fail
  clear c2 f2
  have hR := BlkAt.other hR 2 (.bool true) hk2'
  have hB := But.setNew hB (w.heap.size + 1) 2 (.bool true) (by omega)
  have hE0 : TabE T v _ := ⟨Nat.lt_of_lt_of_le hE0.1 (by simp), (World.cell?_of_block (w := w3) (a := ⟨0, 0, none⟩) (heap_setCell_other w3 ⟨w.heap.size + 1, 2, none⟩ _ (.bool true) (by show (0 : Nat) ≠ w.heap.size + 1; have := hEl; omega))).trans hE0.2⟩
  have q0 := BlkAt.other q0 2 (.bool true) (show w.heap.size ≠ w.heap.size + 1 by omega)
  have o0 : BlkAt (w.heap.size + 1) #[.int .i64 (f : Nat), .int .i64 (t : Nat), .bool true, .string ⟨#[]⟩, .string ⟨#[]⟩, .int .i64 0, .string ⟨#[]⟩, .int .i64 0, .int .i64 0, .string ⟨#[]⟩] 29 _ := BlkAt.set o0 2 (.bool true)
  refine (HI.out _ hR hE0).mono ?_
  rintro e w4 ⟨rfl, hR, hb⟩
  have hB := hB.trans hb
  have hE0 := TabE.but hb hg0 hE0
  have q0 := BlkAt.but hb hk1 q0
  have o0 := BlkAt.but hb hk2 o0
  clear hb
  have c3 := o0.cell (j := 3) rfl
  have f3 := o0.froz (j := 3)
  have c4 := o0.cell (j := 4) rfl
  have f4 := o0.froz (j := 4)
  have c5 := o0.cell (j := 5) rfl
  have f5 := o0.froz (j := 5)
  go_wp2_with fail
  clear c3 f3 c4 f4 c5 f5
  have hR := BlkAt.other hR 3 (.string p) hk2'
  have hB := But.setNew hB (w.heap.size + 1) 3 (.string p) (by omega)
  have hE0 : TabE T v _ := ⟨Nat.lt_of_lt_of_le hE0.1 (by simp), (World.cell?_of_block (w := w4) (a := ⟨0, 0, none⟩) (heap_setCell_other w4 ⟨w.heap.size + 1, 3, none⟩ _ (.string p) (by show (0 : Nat) ≠ w.heap.size + 1; have := hEl; omega))).trans hE0.2⟩
  have q0 := BlkAt.other q0 3 (.string p) (show w.heap.size ≠ w.heap.size + 1 by omega)
  have o0 : BlkAt (w.heap.size + 1) #[.int .i64 (f : Nat), .int .i64 (t : Nat), .bool true, .string p, .string ⟨#[]⟩, .int .i64 0, .string ⟨#[]⟩, .int .i64 0, .int .i64 0, .string ⟨#[]⟩] 29 _ := BlkAt.set o0 3 (.string p)
  have hR := BlkAt.other hR 4 (.string q) hk2'
  have hB := But.setNew hB (w.heap.size + 1) 4 (.string q) (by omega)
  have hE0 : TabE T v _ := ⟨Nat.lt_of_lt_of_le hE0.1 (by simp), (World.cell?_of_block (w := (w4.setCell ⟨w.heap.size + 1, 3, none⟩ (.string p))) (a := ⟨0, 0, none⟩) (heap_setCell_other (w4.setCell ⟨w.heap.size + 1, 3, none⟩ (.string p)) ⟨w.heap.size + 1, 4, none⟩ _ (.string q) (by show (0 : Nat) ≠ w.heap.size + 1; have := hEl; omega))).trans hE0.2⟩
  have q0 := BlkAt.other q0 4 (.string q) (show w.heap.size ≠ w.heap.size + 1 by omega)
  have o0 : BlkAt (w.heap.size + 1) #[.int .i64 (f : Nat), .int .i64 (t : Nat), .bool true, .string p, .string q, .int .i64 0, .string ⟨#[]⟩, .int .i64 0, .int .i64 0, .string ⟨#[]⟩] 29 _ := BlkAt.set o0 4 (.string q)
  have hR := BlkAt.other hR 5 (.int .i64 o) hk2'
  have hB := But.setNew hB (w.heap.size + 1) 5 (.int .i64 o) (by omega)
  have hE0 : TabE T v _ := ⟨Nat.lt_of_lt_of_le hE0.1 (by simp), (World.cell?_of_block (w := ((w4.setCell ⟨w.heap.size + 1, 3, none⟩ (.string p)).setCell ⟨w.heap.size + 1, 4, none⟩ (.string q))) (a := ⟨0, 0, none⟩) (heap_setCell_other ((w4.setCell ⟨w.heap.size + 1, 3, none⟩ (.string p)).setCell ⟨w.heap.size + 1, 4, none⟩ (.string q)) ⟨w.heap.size + 1, 5, none⟩ _ (.int .i64 o) (by show (0 : Nat) ≠ w.heap.size + 1; have := hEl; omega))).trans hE0.2⟩
  have q0 := BlkAt.other q0 5 (.int .i64 o) (show w.heap.size ≠ w.heap.size + 1 by omega)
  have o0 : BlkAt (w.heap.size + 1) #[.int .i64 (f : Nat), .int .i64 (t : Nat), .bool true, .string p, .string q, .int .i64 o, .string ⟨#[]⟩, .int .i64 0, .int .i64 0, .string ⟨#[]⟩] 29 _ := BlkAt.set o0 5 (.int .i64 o)
  refine (HM.out _ hR hE0).mono ?_
  rintro e w5 ⟨rfl, hR, hb⟩
  have hB := hB.trans hb
  have hE0 := TabE.but hb hg0 hE0
  have q0 := BlkAt.but hb hk1 q0
  have o0 := BlkAt.but hb hk2 o0
  clear hb
  have c6 := o0.cell (j := 6) rfl
  have f6 := o0.froz (j := 6)
  have c7 := o0.cell (j := 7) rfl
  have f7 := o0.froz (j := 7)
  have c8 := o0.cell (j := 8) rfl
  have f8 := o0.froz (j := 8)
  have c9 := o0.cell (j := 9) rfl
  have f9 := o0.froz (j := 9)
  have c0 := o0.cell (j := 0) rfl
  have c1 := o0.cell (j := 1) rfl
  have c2 := o0.cell (j := 2) rfl
  have c3 := o0.cell (j := 3) rfl
  have c4 := o0.cell (j := 4) rfl
  have c5 := o0.cell (j := 5) rfl
  go_wp2_with fail
  clear c6 f6 c7 f7 c8 f8 c9 f9 c0 c1 c2 c3 c4 c5
  have hR := BlkAt.other hR 6 (.string u) hk2'
  have hB := But.setNew hB (w.heap.size + 1) 6 (.string u) (by omega)
  have hE0 : TabE T v _ := ⟨Nat.lt_of_lt_of_le hE0.1 (by simp), (World.cell?_of_block (w := w5) (a := ⟨0, 0, none⟩) (heap_setCell_other w5 ⟨w.heap.size + 1, 6, none⟩ _ (.string u) (by show (0 : Nat) ≠ w.heap.size + 1; have := hEl; omega))).trans hE0.2⟩
  have q0 := BlkAt.other q0 6 (.string u) (show w.heap.size ≠ w.heap.size + 1 by omega)
  have o0 : BlkAt (w.heap.size + 1) #[.int .i64 (f : Nat), .int .i64 (t : Nat), .bool true, .string p, .string q, .int .i64 o, .string u, .int .i64 0, .int .i64 0, .string ⟨#[]⟩] 29 _ := BlkAt.set o0 6 (.string u)
  have hR := BlkAt.other hR 7 (.int .i64 a) hk2'
  have hB := But.setNew hB (w.heap.size + 1) 7 (.int .i64 a) (by omega)
  have hE0 : TabE T v _ := ⟨Nat.lt_of_lt_of_le hE0.1 (by simp), (World.cell?_of_block (w := (w5.setCell ⟨w.heap.size + 1, 6, none⟩ (.string u))) (a := ⟨0, 0, none⟩) (heap_setCell_other (w5.setCell ⟨w.heap.size + 1, 6, none⟩ (.string u)) ⟨w.heap.size + 1, 7, none⟩ _ (.int .i64 a) (by show (0 : Nat) ≠ w.heap.size + 1; have := hEl; omega))).trans hE0.2⟩
  have q0 := BlkAt.other q0 7 (.int .i64 a) (show w.heap.size ≠ w.heap.size + 1 by omega)
  have o0 : BlkAt (w.heap.size + 1) #[.int .i64 (f : Nat), .int .i64 (t : Nat), .bool true, .string p, .string q, .int .i64 o, .string u, .int .i64 a, .int .i64 0, .string ⟨#[]⟩] 29 _ := BlkAt.set o0 7 (.int .i64 a)
  have hR := BlkAt.other hR 8 (.int .i64 b) hk2'
  have hB := But.setNew hB (w.heap.size + 1) 8 (.int .i64 b) (by omega)
  have hE0 : TabE T v _ := ⟨Nat.lt_of_lt_of_le hE0.1 (by simp), (World.cell?_of_block (w := ((w5.setCell ⟨w.heap.size + 1, 6, none⟩ (.string u)).setCell ⟨w.heap.size + 1, 7, none⟩ (.int .i64 a))) (a := ⟨0, 0, none⟩) (heap_setCell_other ((w5.setCell ⟨w.heap.size + 1, 6, none⟩ (.string u)).setCell ⟨w.heap.size + 1, 7, none⟩ (.int .i64 a)) ⟨w.heap.size + 1, 8, none⟩ _ (.int .i64 b) (by show (0 : Nat) ≠ w.heap.size + 1; have := hEl; omega))).trans hE0.2⟩
  have q0 := BlkAt.other q0 8 (.int .i64 b) (show w.heap.size ≠ w.heap.size + 1 by omega)
  have o0 : BlkAt (w.heap.size + 1) #[.int .i64 (f : Nat), .int .i64 (t : Nat), .bool true, .string p, .string q, .int .i64 o, .string u, .int .i64 a, .int .i64 b, .string ⟨#[]⟩] 29 _ := BlkAt.set o0 8 (.int .i64 b)
  have hR := BlkAt.other hR 9 (.string x) hk2'
  have hB := But.setNew hB (w.heap.size + 1) 9 (.string x) (by omega)
  have hE0 : TabE T v _ := ⟨Nat.lt_of_lt_of_le hE0.1 (by simp), (World.cell?_of_block (w := (((w5.setCell ⟨w.heap.size + 1, 6, none⟩ (.string u)).setCell ⟨w.heap.size + 1, 7, none⟩ (.int .i64 a)).setCell ⟨w.heap.size + 1, 8, none⟩ (.int .i64 b))) (a := ⟨0, 0, none⟩) (heap_setCell_other (((w5.setCell ⟨w.heap.size + 1, 6, none⟩ (.string u)).setCell ⟨w.heap.size + 1, 7, none⟩ (.int .i64 a)).setCell ⟨w.heap.size + 1, 8, none⟩ (.int .i64 b)) ⟨w.heap.size + 1, 9, none⟩ _ (.string x) (by show (0 : Nat) ≠ w.heap.size + 1; have := hEl; omega))).trans hE0.2⟩
  have q0 := BlkAt.other q0 9 (.string x) (show w.heap.size ≠ w.heap.size + 1 by omega)
  have o0 : BlkAt (w.heap.size + 1) #[.int .i64 (f : Nat), .int .i64 (t : Nat), .bool true, .string p, .string q, .int .i64 o, .string u, .int .i64 a, .int .i64 b, .string x] 29 _ := BlkAt.set o0 9 (.string x)
  refine (HK.out _).mono ?_
  rintro e w6 ⟨rfl, hb⟩
  have hB := hB.trans (But.of_below hb)
  have hE0 := TabE.below hb hE0
  have hR := BlkAt.below hb hR
  have q0 := BlkAt.below hb q0
  have o0 := BlkAt.below hb o0
  clear hb
  go_wp2_with fail
  refine (need_no g _ T v hE0).mono ?_
  rintro e w9 ⟨rfl, rfl⟩
  exact ⟨rfl, rfl, hB⟩

set_option maxHeartbeats 8000000 in
set_option maxRecDepth 100000 in
theorem envelope_yesT (g : Nat) (r : ByteArray) (w : World) (T : TypeId) (v : Value) (hE : TabE T v w) (h : RdAt g r w) (hg0 : 0 ≠ g) (hr : r.size ≤ 1048576) (f t : Nat) (hf : numOf (cut r 0 1).data.toList = f) (ht : numOf (cut r 1 2).data.toList = t) (hl : 3 ≤ r.size) (p q : ByteArray) (o : Int) (hp : p.size ≤ 1048576) (hq : q.size ≤ 1048576) (u x y : ByteArray) (a b : Int) (hu : u.size ≤ 1048576) (hx : x.size ≤ 1048576) (hz : numOf (cut r 2 3).data.toList = 1) (HI : ∀ w1 : World, RdAt g (cut r 3 r.size) w1 → TabE T v w1 → Calls Tryd.prog 46 #[.pointer (some ⟨g, 0, none⟩)] w1 fun e w' => e = .returned (.agg (initA p q o)) ∧ RdAt g (cut r 69 r.size) w' ∧ But g w1 w') (HM : ∀ w1 : World, RdAt g (cut r 69 r.size) w1 → TabE T v w1 → Calls Tryd.prog 32 #[.pointer (some ⟨g, 0, none⟩)] w1 fun e w' => e = .returned (.agg (msgA u a b x)) ∧ RdAt g y w' ∧ But g w1 w') (hO : EnvP f t true p q o u a b x) :
    Calls Tryd.prog 23 #[.pointer (some ⟨g, 0, none⟩)] w fun e w' => e = .returned (.agg (envA f t true p q o u a b x)) ∧ RdAt g y w' ∧ But g w w' := by
  have hgl := h.lt
  have hEl := hE.1
  have hk1 : w.heap.size ≠ g := by omega
  have hk2 : w.heap.size + 1 ≠ g := by omega
  have hk1' : g ≠ w.heap.size := by omega
  have hk2' : g ≠ w.heap.size + 1 := by omega
  have HS := Lib.hid hr
  clear hr
  have Hf := Lib.hid hf
  have Ht := Lib.hid ht
  clear hf ht
  have HL := Lib.hid hl
  clear hl
  have HZ := Lib.hid hz
  clear hz
  have HM := Lib.hid HM
  have HI := Lib.hid HI
  have HK := Lib.hid (fun w => envOk_i f t true p q o u a b x w true (decide_eq_true hO) (by omega) (by omega) (by omega) (by omega))
  clear hO hu hx hp hq
  have h0 : RdAt g (cut r 0 r.size) w := by rw [cut_all]; exact h
  go_enter Tryd.func23, Tryd.ntmps23
  go_wp2_with fail
  have e1 : (w.alloc (.cells zeroE 29)).heap.size = w.heap.size + 1 := by simp
  have hB : But g w ((w.alloc (.cells zeroE 29)).alloc (.cells zeroE 29)) := ((But.refl g w).alloc _).alloc _
  have hR := (h0.past (.cells zeroE 29)).past (.cells zeroE 29)
  have hE0 : TabE T v ((w.alloc (.cells zeroE 29)).alloc (.cells zeroE 29)) := TabE.but hB hg0 hE
  have q0 : BlkAt w.heap.size zeroE 29 ((w.alloc (.cells zeroE 29)).alloc (.cells zeroE 29)) := (BlkAt.box _ _ _).past _
  have o0 : BlkAt (w.heap.size + 1) zeroE 29 ((w.alloc (.cells zeroE 29)).alloc (.cells zeroE 29)) := by rw [← e1]; exact BlkAt.box _ _ _
  clear e1
  refine (number_at g r 0 1 _ hR (by have := HL.out; omega) HS.out (by omega) (by omega)).mono ?_
  rintro e w1 ⟨rfl, hR, hb⟩
  have hB := hB.trans hb
  have hE0 := TabE.but hb hg0 hE0
  have q0 := BlkAt.but hb hk1 q0
  have o0 := BlkAt.but hb hk2 o0
  clear hb
  have e0 : numOf (cut r 0 (0 + 1)).data.toList = f := Hf.out
  try rw [e0]
  clear e0
  have c0 := o0.cell (j := 0) rfl
  have f0 := o0.froz (j := 0)
  go_wp2_with fail
  clear c0 f0
  have hR := BlkAt.other hR 0 (.int .i64 (f : Nat)) hk2'
  have hB := But.setNew hB (w.heap.size + 1) 0 (.int .i64 (f : Nat)) (by omega)
  have hE0 : TabE T v _ := ⟨Nat.lt_of_lt_of_le hE0.1 (by simp), (World.cell?_of_block (w := w1) (a := ⟨0, 0, none⟩) (heap_setCell_other w1 ⟨w.heap.size + 1, 0, none⟩ _ (.int .i64 (f : Nat)) (by show (0 : Nat) ≠ w.heap.size + 1; have := hEl; omega))).trans hE0.2⟩
  have q0 := BlkAt.other q0 0 (.int .i64 (f : Nat)) (show w.heap.size ≠ w.heap.size + 1 by omega)
  have o0 : BlkAt (w.heap.size + 1) #[.int .i64 (f : Nat), .int .i64 0, .bool false, .string ⟨#[]⟩, .string ⟨#[]⟩, .int .i64 0, .string ⟨#[]⟩, .int .i64 0, .int .i64 0, .string ⟨#[]⟩] 29 _ := BlkAt.set o0 0 (.int .i64 (f : Nat))
  refine (number_at g r 1 1 _ hR (by have := HL.out; omega) HS.out (by omega) (by omega)).mono ?_
  rintro e w2 ⟨rfl, hR, hb⟩
  have hB := hB.trans hb
  have hE0 := TabE.but hb hg0 hE0
  have q0 := BlkAt.but hb hk1 q0
  have o0 := BlkAt.but hb hk2 o0
  clear hb
  have e0 : numOf (cut r 1 (1 + 1)).data.toList = t := Ht.out
  try rw [e0]
  clear e0
  have c1 := o0.cell (j := 1) rfl
  have f1 := o0.froz (j := 1)
  go_wp2_with fail
  clear c1 f1
  have hR := BlkAt.other hR 1 (.int .i64 (t : Nat)) hk2'
  have hB := But.setNew hB (w.heap.size + 1) 1 (.int .i64 (t : Nat)) (by omega)
  have hE0 : TabE T v _ := ⟨Nat.lt_of_lt_of_le hE0.1 (by simp), (World.cell?_of_block (w := w2) (a := ⟨0, 0, none⟩) (heap_setCell_other w2 ⟨w.heap.size + 1, 1, none⟩ _ (.int .i64 (t : Nat)) (by show (0 : Nat) ≠ w.heap.size + 1; have := hEl; omega))).trans hE0.2⟩
  have q0 := BlkAt.other q0 1 (.int .i64 (t : Nat)) (show w.heap.size ≠ w.heap.size + 1 by omega)
  have o0 : BlkAt (w.heap.size + 1) #[.int .i64 (f : Nat), .int .i64 (t : Nat), .bool false, .string ⟨#[]⟩, .string ⟨#[]⟩, .int .i64 0, .string ⟨#[]⟩, .int .i64 0, .int .i64 0, .string ⟨#[]⟩] 29 _ := BlkAt.set o0 1 (.int .i64 (t : Nat))
  refine (flag_true g r 2 _ hR (by have := HL.out; omega) HS.out HZ.out).mono ?_
  rintro e w3 ⟨rfl, hR, hb⟩
  have hB := hB.trans hb
  have hE0 := TabE.but hb hg0 hE0
  have q0 := BlkAt.but hb hk1 q0
  have o0 := BlkAt.but hb hk2 o0
  clear hb
  have c2 := o0.cell (j := 2) rfl
  have f2 := o0.froz (j := 2)
  go_wp2_with fail
  clear c2 f2
  have hR := BlkAt.other hR 2 (.bool true) hk2'
  have hB := But.setNew hB (w.heap.size + 1) 2 (.bool true) (by omega)
  have hE0 : TabE T v _ := ⟨Nat.lt_of_lt_of_le hE0.1 (by simp), (World.cell?_of_block (w := w3) (a := ⟨0, 0, none⟩) (heap_setCell_other w3 ⟨w.heap.size + 1, 2, none⟩ _ (.bool true) (by show (0 : Nat) ≠ w.heap.size + 1; have := hEl; omega))).trans hE0.2⟩
  have q0 := BlkAt.other q0 2 (.bool true) (show w.heap.size ≠ w.heap.size + 1 by omega)
  have o0 : BlkAt (w.heap.size + 1) #[.int .i64 (f : Nat), .int .i64 (t : Nat), .bool true, .string ⟨#[]⟩, .string ⟨#[]⟩, .int .i64 0, .string ⟨#[]⟩, .int .i64 0, .int .i64 0, .string ⟨#[]⟩] 29 _ := BlkAt.set o0 2 (.bool true)
  refine (HI.out _ hR hE0).mono ?_
  rintro e w4 ⟨rfl, hR, hb⟩
  have hB := hB.trans hb
  have hE0 := TabE.but hb hg0 hE0
  have q0 := BlkAt.but hb hk1 q0
  have o0 := BlkAt.but hb hk2 o0
  clear hb
  have c3 := o0.cell (j := 3) rfl
  have f3 := o0.froz (j := 3)
  have c4 := o0.cell (j := 4) rfl
  have f4 := o0.froz (j := 4)
  have c5 := o0.cell (j := 5) rfl
  have f5 := o0.froz (j := 5)
  go_wp2_with fail
  clear c3 f3 c4 f4 c5 f5
  have hR := BlkAt.other hR 3 (.string p) hk2'
  have hB := But.setNew hB (w.heap.size + 1) 3 (.string p) (by omega)
  have hE0 : TabE T v _ := ⟨Nat.lt_of_lt_of_le hE0.1 (by simp), (World.cell?_of_block (w := w4) (a := ⟨0, 0, none⟩) (heap_setCell_other w4 ⟨w.heap.size + 1, 3, none⟩ _ (.string p) (by show (0 : Nat) ≠ w.heap.size + 1; have := hEl; omega))).trans hE0.2⟩
  have q0 := BlkAt.other q0 3 (.string p) (show w.heap.size ≠ w.heap.size + 1 by omega)
  have o0 : BlkAt (w.heap.size + 1) #[.int .i64 (f : Nat), .int .i64 (t : Nat), .bool true, .string p, .string ⟨#[]⟩, .int .i64 0, .string ⟨#[]⟩, .int .i64 0, .int .i64 0, .string ⟨#[]⟩] 29 _ := BlkAt.set o0 3 (.string p)
  have hR := BlkAt.other hR 4 (.string q) hk2'
  have hB := But.setNew hB (w.heap.size + 1) 4 (.string q) (by omega)
  have hE0 : TabE T v _ := ⟨Nat.lt_of_lt_of_le hE0.1 (by simp), (World.cell?_of_block (w := (w4.setCell ⟨w.heap.size + 1, 3, none⟩ (.string p))) (a := ⟨0, 0, none⟩) (heap_setCell_other (w4.setCell ⟨w.heap.size + 1, 3, none⟩ (.string p)) ⟨w.heap.size + 1, 4, none⟩ _ (.string q) (by show (0 : Nat) ≠ w.heap.size + 1; have := hEl; omega))).trans hE0.2⟩
  have q0 := BlkAt.other q0 4 (.string q) (show w.heap.size ≠ w.heap.size + 1 by omega)
  have o0 : BlkAt (w.heap.size + 1) #[.int .i64 (f : Nat), .int .i64 (t : Nat), .bool true, .string p, .string q, .int .i64 0, .string ⟨#[]⟩, .int .i64 0, .int .i64 0, .string ⟨#[]⟩] 29 _ := BlkAt.set o0 4 (.string q)
  have hR := BlkAt.other hR 5 (.int .i64 o) hk2'
  have hB := But.setNew hB (w.heap.size + 1) 5 (.int .i64 o) (by omega)
  have hE0 : TabE T v _ := ⟨Nat.lt_of_lt_of_le hE0.1 (by simp), (World.cell?_of_block (w := ((w4.setCell ⟨w.heap.size + 1, 3, none⟩ (.string p)).setCell ⟨w.heap.size + 1, 4, none⟩ (.string q))) (a := ⟨0, 0, none⟩) (heap_setCell_other ((w4.setCell ⟨w.heap.size + 1, 3, none⟩ (.string p)).setCell ⟨w.heap.size + 1, 4, none⟩ (.string q)) ⟨w.heap.size + 1, 5, none⟩ _ (.int .i64 o) (by show (0 : Nat) ≠ w.heap.size + 1; have := hEl; omega))).trans hE0.2⟩
  have q0 := BlkAt.other q0 5 (.int .i64 o) (show w.heap.size ≠ w.heap.size + 1 by omega)
  have o0 : BlkAt (w.heap.size + 1) #[.int .i64 (f : Nat), .int .i64 (t : Nat), .bool true, .string p, .string q, .int .i64 o, .string ⟨#[]⟩, .int .i64 0, .int .i64 0, .string ⟨#[]⟩] 29 _ := BlkAt.set o0 5 (.int .i64 o)
  refine (HM.out _ hR hE0).mono ?_
  rintro e w5 ⟨rfl, hR, hb⟩
  have hB := hB.trans hb
  have hE0 := TabE.but hb hg0 hE0
  have q0 := BlkAt.but hb hk1 q0
  have o0 := BlkAt.but hb hk2 o0
  clear hb
  have c6 := o0.cell (j := 6) rfl
  have f6 := o0.froz (j := 6)
  have c7 := o0.cell (j := 7) rfl
  have f7 := o0.froz (j := 7)
  have c8 := o0.cell (j := 8) rfl
  have f8 := o0.froz (j := 8)
  have c9 := o0.cell (j := 9) rfl
  have f9 := o0.froz (j := 9)
  have c0 := o0.cell (j := 0) rfl
  have c1 := o0.cell (j := 1) rfl
  have c2 := o0.cell (j := 2) rfl
  have c3 := o0.cell (j := 3) rfl
  have c4 := o0.cell (j := 4) rfl
  have c5 := o0.cell (j := 5) rfl
  go_wp2_with fail
  clear c6 f6 c7 f7 c8 f8 c9 f9 c0 c1 c2 c3 c4 c5
  have hR := BlkAt.other hR 6 (.string u) hk2'
  have hB := But.setNew hB (w.heap.size + 1) 6 (.string u) (by omega)
  have hE0 : TabE T v _ := ⟨Nat.lt_of_lt_of_le hE0.1 (by simp), (World.cell?_of_block (w := w5) (a := ⟨0, 0, none⟩) (heap_setCell_other w5 ⟨w.heap.size + 1, 6, none⟩ _ (.string u) (by show (0 : Nat) ≠ w.heap.size + 1; have := hEl; omega))).trans hE0.2⟩
  have q0 := BlkAt.other q0 6 (.string u) (show w.heap.size ≠ w.heap.size + 1 by omega)
  have o0 : BlkAt (w.heap.size + 1) #[.int .i64 (f : Nat), .int .i64 (t : Nat), .bool true, .string p, .string q, .int .i64 o, .string u, .int .i64 0, .int .i64 0, .string ⟨#[]⟩] 29 _ := BlkAt.set o0 6 (.string u)
  have hR := BlkAt.other hR 7 (.int .i64 a) hk2'
  have hB := But.setNew hB (w.heap.size + 1) 7 (.int .i64 a) (by omega)
  have hE0 : TabE T v _ := ⟨Nat.lt_of_lt_of_le hE0.1 (by simp), (World.cell?_of_block (w := (w5.setCell ⟨w.heap.size + 1, 6, none⟩ (.string u))) (a := ⟨0, 0, none⟩) (heap_setCell_other (w5.setCell ⟨w.heap.size + 1, 6, none⟩ (.string u)) ⟨w.heap.size + 1, 7, none⟩ _ (.int .i64 a) (by show (0 : Nat) ≠ w.heap.size + 1; have := hEl; omega))).trans hE0.2⟩
  have q0 := BlkAt.other q0 7 (.int .i64 a) (show w.heap.size ≠ w.heap.size + 1 by omega)
  have o0 : BlkAt (w.heap.size + 1) #[.int .i64 (f : Nat), .int .i64 (t : Nat), .bool true, .string p, .string q, .int .i64 o, .string u, .int .i64 a, .int .i64 0, .string ⟨#[]⟩] 29 _ := BlkAt.set o0 7 (.int .i64 a)
  have hR := BlkAt.other hR 8 (.int .i64 b) hk2'
  have hB := But.setNew hB (w.heap.size + 1) 8 (.int .i64 b) (by omega)
  have hE0 : TabE T v _ := ⟨Nat.lt_of_lt_of_le hE0.1 (by simp), (World.cell?_of_block (w := ((w5.setCell ⟨w.heap.size + 1, 6, none⟩ (.string u)).setCell ⟨w.heap.size + 1, 7, none⟩ (.int .i64 a))) (a := ⟨0, 0, none⟩) (heap_setCell_other ((w5.setCell ⟨w.heap.size + 1, 6, none⟩ (.string u)).setCell ⟨w.heap.size + 1, 7, none⟩ (.int .i64 a)) ⟨w.heap.size + 1, 8, none⟩ _ (.int .i64 b) (by show (0 : Nat) ≠ w.heap.size + 1; have := hEl; omega))).trans hE0.2⟩
  have q0 := BlkAt.other q0 8 (.int .i64 b) (show w.heap.size ≠ w.heap.size + 1 by omega)
  have o0 : BlkAt (w.heap.size + 1) #[.int .i64 (f : Nat), .int .i64 (t : Nat), .bool true, .string p, .string q, .int .i64 o, .string u, .int .i64 a, .int .i64 b, .string ⟨#[]⟩] 29 _ := BlkAt.set o0 8 (.int .i64 b)
  have hR := BlkAt.other hR 9 (.string x) hk2'
  have hB := But.setNew hB (w.heap.size + 1) 9 (.string x) (by omega)
  have hE0 : TabE T v _ := ⟨Nat.lt_of_lt_of_le hE0.1 (by simp), (World.cell?_of_block (w := (((w5.setCell ⟨w.heap.size + 1, 6, none⟩ (.string u)).setCell ⟨w.heap.size + 1, 7, none⟩ (.int .i64 a)).setCell ⟨w.heap.size + 1, 8, none⟩ (.int .i64 b))) (a := ⟨0, 0, none⟩) (heap_setCell_other (((w5.setCell ⟨w.heap.size + 1, 6, none⟩ (.string u)).setCell ⟨w.heap.size + 1, 7, none⟩ (.int .i64 a)).setCell ⟨w.heap.size + 1, 8, none⟩ (.int .i64 b)) ⟨w.heap.size + 1, 9, none⟩ _ (.string x) (by show (0 : Nat) ≠ w.heap.size + 1; have := hEl; omega))).trans hE0.2⟩
  have q0 := BlkAt.other q0 9 (.string x) (show w.heap.size ≠ w.heap.size + 1 by omega)
  have o0 : BlkAt (w.heap.size + 1) #[.int .i64 (f : Nat), .int .i64 (t : Nat), .bool true, .string p, .string q, .int .i64 o, .string u, .int .i64 a, .int .i64 b, .string x] 29 _ := BlkAt.set o0 9 (.string x)
  refine (HK.out _).mono ?_
  rintro e w6 ⟨rfl, hb⟩
  have hB := hB.trans (But.of_below hb)
  have hE0 := TabE.below hb hE0
  have hR := BlkAt.below hb hR
  have q0 := BlkAt.below hb q0
  have o0 := BlkAt.below hb o0
  clear hb
  go_wp2_with fail
  refine (need_yes g _).mono ?_
  rintro e w9 ⟨rfl, rfl⟩
  have c0 := o0.cell (j := 0) rfl
  have d0 := q0.cell (j := 0) rfl
  have f0 := q0.froz (j := 0)
  have c1 := o0.cell (j := 1) rfl
  have d1 := q0.cell (j := 1) rfl
  have f1 := q0.froz (j := 1)
  have c2 := o0.cell (j := 2) rfl
  have d2 := q0.cell (j := 2) rfl
  have f2 := q0.froz (j := 2)
  have c3 := o0.cell (j := 3) rfl
  have d3 := q0.cell (j := 3) rfl
  have f3 := q0.froz (j := 3)
  have c4 := o0.cell (j := 4) rfl
  have d4 := q0.cell (j := 4) rfl
  have f4 := q0.froz (j := 4)
  have c5 := o0.cell (j := 5) rfl
  have d5 := q0.cell (j := 5) rfl
  have f5 := q0.froz (j := 5)
  have c6 := o0.cell (j := 6) rfl
  have d6 := q0.cell (j := 6) rfl
  have f6 := q0.froz (j := 6)
  have c7 := o0.cell (j := 7) rfl
  have d7 := q0.cell (j := 7) rfl
  have f7 := q0.froz (j := 7)
  have c8 := o0.cell (j := 8) rfl
  have d8 := q0.cell (j := 8) rfl
  have f8 := q0.froz (j := 8)
  have c9 := o0.cell (j := 9) rfl
  have d9 := q0.cell (j := 9) rfl
  have f9 := q0.froz (j := 9)
  go_wp2
  refine bodyPost_ret (v := .agg #[.int .i64 (f : Nat), .int .i64 (t : Nat), .bool true, .string p, .string q, .int .i64 o, .string u, .int .i64 a, .int .i64 b, .string x]) (by simp [results, Tryd.results23, go_sem, *]) rfl ⟨rfl, ?_, ?_⟩
  · exact ((((((((((hR.other 0 _ hk1').other 1 _ hk1').other 2 _ hk1').other 3 _ hk1').other 4 _ hk1').other 5 _ hk1').other 6 _ hk1').other 7 _ hk1').other 8 _ hk1').other 9 _ hk1')
  · exact ((((((((((hB.setNew _ 0 _ (Nat.le_refl _)).setNew _ 1 _ (Nat.le_refl _)).setNew _ 2 _ (Nat.le_refl _)).setNew _ 3 _ (Nat.le_refl _)).setNew _ 4 _ (Nat.le_refl _)).setNew _ 5 _ (Nat.le_refl _)).setNew _ 6 _ (Nat.le_refl _)).setNew _ 7 _ (Nat.le_refl _)).setNew _ 8 _ (Nat.le_refl _)).setNew _ 9 _ (Nat.le_refl _))

end Go.Proofs.YtmolcpojdojmlaaDoor
