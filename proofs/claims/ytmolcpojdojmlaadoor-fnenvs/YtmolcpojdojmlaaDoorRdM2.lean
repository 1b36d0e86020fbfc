/- The reader's message. -/
import Derived.Test.YtmolcpojdojmlaaDoorRdM1
namespace Go.Proofs.YtmolcpojdojmlaaDoor
open Go.RowKit Go.My Go.Lib
set_option linter.unusedVariables false

abbrev zeroM : Array Value := #[.string ⟨#[]⟩, .int .i64 0, .int .i64 0, .string ⟨#[]⟩]

set_option maxHeartbeats 4000000 in
theorem message_no0 (g : Nat) (r : ByteArray) (w : World) (T : TypeId) (v : Value) (hE : TabE T v w) (h : RdAt g r w) (hg0 : 0 ≠ g) (hr : r.size ≤ 1048576) (hl : r.size < 32) :
    Calls Tryd.prog 32 #[.pointer (some ⟨g, 0, none⟩)] w fun e w' => e = panE T v ∧ But g w w' := by
  have hgl := h.lt
  have hEl := hE.1
  have hk1 : w.heap.size ≠ g := by omega
  have hk2 : w.heap.size + 1 ≠ g := by omega
  have hk1' : g ≠ w.heap.size := by omega
  have hk2' : g ≠ w.heap.size + 1 := by omega
  have HS := Lib.hid hr
  clear hr
  have HL := Lib.hid hl
  clear hl
  go_enter Tryd.func32, Tryd.ntmps32
  go_wp2_with fail
  have e1 : (w.alloc (.cells zeroM 27)).heap.size = w.heap.size + 1 := by simp
  have hB : But g w ((w.alloc (.cells zeroM 27)).alloc (.cells zeroM 27)) := ((But.refl g w).alloc _).alloc _
  have hR : RdAt g (cut r 0 r.size) ((w.alloc (.cells zeroM 27)).alloc (.cells zeroM 27)) := ((by rw [cut_all]; exact h : RdAt g (cut r 0 r.size) w).past _).past _
  have hE0 : TabE T v ((w.alloc (.cells zeroM 27)).alloc (.cells zeroM 27)) := TabE.but hB hg0 hE
  have q0 : BlkAt w.heap.size zeroM 27 ((w.alloc (.cells zeroM 27)).alloc (.cells zeroM 27)) := (BlkAt.box _ _ _).past _
  have o0 : BlkAt (w.heap.size + 1) zeroM 27 ((w.alloc (.cells zeroM 27)).alloc (.cells zeroM 27)) := by rw [← e1]; exact BlkAt.box _ _ _
  clear e1
  refine (take_at_no g r 0 32 _ T v hE0 hR (by have := HL.out; omega) (by have := HL.out; omega) (by have := HL.out; omega)).mono ?_
  rintro e w9 ⟨rfl, rfl⟩
  exact ⟨rfl, rfl, hB⟩

set_option maxHeartbeats 4000000 in
theorem message_no1 (g : Nat) (r : ByteArray) (w : World) (T : TypeId) (v : Value) (hE : TabE T v w) (h : RdAt g r w) (hg0 : 0 ≠ g) (hr : r.size ≤ 1048576) (hl : 32 ≤ r.size ∧ r.size < 34) :
    Calls Tryd.prog 32 #[.pointer (some ⟨g, 0, none⟩)] w fun e w' => e = panE T v ∧ But g w w' := by
  have hgl := h.lt
  have hEl := hE.1
  have hk1 : w.heap.size ≠ g := by omega
  have hk2 : w.heap.size + 1 ≠ g := by omega
  have hk1' : g ≠ w.heap.size := by omega
  have hk2' : g ≠ w.heap.size + 1 := by omega
  have HS := Lib.hid hr
  clear hr
  have HL := Lib.hid hl
  clear hl
  go_enter Tryd.func32, Tryd.ntmps32
  go_wp2_with fail
  have e1 : (w.alloc (.cells zeroM 27)).heap.size = w.heap.size + 1 := by simp
  have hB : But g w ((w.alloc (.cells zeroM 27)).alloc (.cells zeroM 27)) := ((But.refl g w).alloc _).alloc _
  have hR : RdAt g (cut r 0 r.size) ((w.alloc (.cells zeroM 27)).alloc (.cells zeroM 27)) := ((by rw [cut_all]; exact h : RdAt g (cut r 0 r.size) w).past _).past _
  have hE0 : TabE T v ((w.alloc (.cells zeroM 27)).alloc (.cells zeroM 27)) := TabE.but hB hg0 hE
  have q0 : BlkAt w.heap.size zeroM 27 ((w.alloc (.cells zeroM 27)).alloc (.cells zeroM 27)) := (BlkAt.box _ _ _).past _
  have o0 : BlkAt (w.heap.size + 1) zeroM 27 ((w.alloc (.cells zeroM 27)).alloc (.cells zeroM 27)) := by rw [← e1]; exact BlkAt.box _ _ _
  clear e1
  refine (take_at g r 0 32 _ hR (by have := HL.out; omega) HS.out ).mono ?_
  rintro e w1 ⟨rfl, hR, hb⟩
  have hB := hB.trans hb
  have hE0 := TabE.but hb hg0 hE0
  have q0 := BlkAt.but hb hk1 q0
  have o0 := BlkAt.but hb hk2 o0
  clear hb
  have c0 := o0.cell (j := 0) rfl
  have f0 := o0.froz (j := 0)
  go_wp2_with fail
  clear c0 f0
  have hR := BlkAt.other hR 0 (.string (cut r 0 32)) hk2'
  have hB := But.setNew hB (w.heap.size + 1) 0 (.string (cut r 0 32)) (by omega)
  have hE0 : TabE T v _ := ⟨Nat.lt_of_lt_of_le hE0.1 (by simp), (World.cell?_of_block (w := w1) (a := ⟨0, 0, none⟩) (heap_setCell_other w1 ⟨w.heap.size + 1, 0, none⟩ _ (.string (cut r 0 32)) (by show (0 : Nat) ≠ w.heap.size + 1; have := hEl; omega))).trans hE0.2⟩
  have q0 := BlkAt.other q0 0 (.string (cut r 0 32)) (show w.heap.size ≠ w.heap.size + 1 by omega)
  have o0 : BlkAt (w.heap.size + 1) #[.string (cut r 0 32), .int .i64 0, .int .i64 0, .string ⟨#[]⟩] 27 _ := BlkAt.set o0 0 (.string (cut r 0 32))
  refine (number_at_no g r 32 2 _ T v hE0 hR (by have := HL.out; omega) (by have := HL.out; omega) (by have := HL.out; omega)).mono ?_
  rintro e w9 ⟨rfl, rfl⟩
  exact ⟨rfl, rfl, hB⟩

set_option maxHeartbeats 4000000 in
theorem message_no2 (g : Nat) (r : ByteArray) (w : World) (T : TypeId) (v : Value) (hE : TabE T v w) (h : RdAt g r w) (hg0 : 0 ≠ g) (hr : r.size ≤ 1048576) (hl : 34 ≤ r.size ∧ r.size < 36) :
    Calls Tryd.prog 32 #[.pointer (some ⟨g, 0, none⟩)] w fun e w' => e = panE T v ∧ But g w w' := by
  have hgl := h.lt
  have hEl := hE.1
  have hk1 : w.heap.size ≠ g := by omega
  have hk2 : w.heap.size + 1 ≠ g := by omega
  have hk1' : g ≠ w.heap.size := by omega
  have hk2' : g ≠ w.heap.size + 1 := by omega
  have HS := Lib.hid hr
  clear hr
  have HL := Lib.hid hl
  clear hl
  go_enter Tryd.func32, Tryd.ntmps32
  go_wp2_with fail
  have e1 : (w.alloc (.cells zeroM 27)).heap.size = w.heap.size + 1 := by simp
  have hB : But g w ((w.alloc (.cells zeroM 27)).alloc (.cells zeroM 27)) := ((But.refl g w).alloc _).alloc _
  have hR : RdAt g (cut r 0 r.size) ((w.alloc (.cells zeroM 27)).alloc (.cells zeroM 27)) := ((by rw [cut_all]; exact h : RdAt g (cut r 0 r.size) w).past _).past _
  have hE0 : TabE T v ((w.alloc (.cells zeroM 27)).alloc (.cells zeroM 27)) := TabE.but hB hg0 hE
  have q0 : BlkAt w.heap.size zeroM 27 ((w.alloc (.cells zeroM 27)).alloc (.cells zeroM 27)) := (BlkAt.box _ _ _).past _
  have o0 : BlkAt (w.heap.size + 1) zeroM 27 ((w.alloc (.cells zeroM 27)).alloc (.cells zeroM 27)) := by rw [← e1]; exact BlkAt.box _ _ _
  clear e1
  refine (take_at g r 0 32 _ hR (by have := HL.out; omega) HS.out ).mono ?_
  rintro e w1 ⟨rfl, hR, hb⟩
  have hB := hB.trans hb
  have hE0 := TabE.but hb hg0 hE0
  have q0 := BlkAt.but hb hk1 q0
  have o0 := BlkAt.but hb hk2 o0
  clear hb
  have c0 := o0.cell (j := 0) rfl
  have f0 := o0.froz (j := 0)
  go_wp2_with fail
  clear c0 f0
  have hR := BlkAt.other hR 0 (.string (cut r 0 32)) hk2'
  have hB := But.setNew hB (w.heap.size + 1) 0 (.string (cut r 0 32)) (by omega)
  have hE0 : TabE T v _ := ⟨Nat.lt_of_lt_of_le hE0.1 (by simp), (World.cell?_of_block (w := w1) (a := ⟨0, 0, none⟩) (heap_setCell_other w1 ⟨w.heap.size + 1, 0, none⟩ _ (.string (cut r 0 32)) (by show (0 : Nat) ≠ w.heap.size + 1; have := hEl; omega))).trans hE0.2⟩
  have q0 := BlkAt.other q0 0 (.string (cut r 0 32)) (show w.heap.size ≠ w.heap.size + 1 by omega)
  have o0 : BlkAt (w.heap.size + 1) #[.string (cut r 0 32), .int .i64 0, .int .i64 0, .string ⟨#[]⟩] 27 _ := BlkAt.set o0 0 (.string (cut r 0 32))
  refine (number_at g r 32 2 _ hR (by have := HL.out; omega) HS.out (by omega) (by omega)).mono ?_
  rintro e w2 ⟨rfl, hR, hb⟩
  have hB := hB.trans hb
  have hE0 := TabE.but hb hg0 hE0
  have q0 := BlkAt.but hb hk1 q0
  have o0 := BlkAt.but hb hk2 o0
  clear hb
  have c1 := o0.cell (j := 1) rfl
  have f1 := o0.froz (j := 1)
  go_wp2_with fail
  clear c1 f1
  have hR := BlkAt.other hR 1 (.int .i64 (numOf (cut r 32 34).data.toList : Nat)) hk2'
  have hB := But.setNew hB (w.heap.size + 1) 1 (.int .i64 (numOf (cut r 32 34).data.toList : Nat)) (by omega)
  have hE0 : TabE T v _ := ⟨Nat.lt_of_lt_of_le hE0.1 (by simp), (World.cell?_of_block (w := w2) (a := ⟨0, 0, none⟩) (heap_setCell_other w2 ⟨w.heap.size + 1, 1, none⟩ _ (.int .i64 (numOf (cut r 32 34).data.toList : Nat)) (by show (0 : Nat) ≠ w.heap.size + 1; have := hEl; omega))).trans hE0.2⟩
  have q0 := BlkAt.other q0 1 (.int .i64 (numOf (cut r 32 34).data.toList : Nat)) (show w.heap.size ≠ w.heap.size + 1 by omega)
  have o0 : BlkAt (w.heap.size + 1) #[.string (cut r 0 32), .int .i64 (numOf (cut r 32 34).data.toList : Nat), .int .i64 0, .string ⟨#[]⟩] 27 _ := BlkAt.set o0 1 (.int .i64 (numOf (cut r 32 34).data.toList : Nat))
  refine (number_at_no g r 34 2 _ T v hE0 hR (by have := HL.out; omega) (by have := HL.out; omega) (by have := HL.out; omega)).mono ?_
  rintro e w9 ⟨rfl, rfl⟩
  exact ⟨rfl, rfl, hB⟩

set_option maxHeartbeats 4000000 in
theorem message_no3 (g : Nat) (r : ByteArray) (w : World) (T : TypeId) (v : Value) (hE : TabE T v w) (h : RdAt g r w) (hg0 : 0 ≠ g) (hr : r.size ≤ 1048576) (hl : 36 ≤ r.size ∧ r.size < 38) :
    Calls Tryd.prog 32 #[.pointer (some ⟨g, 0, none⟩)] w fun e w' => e = panE T v ∧ But g w w' := by
  have hgl := h.lt
  have hEl := hE.1
  have hk1 : w.heap.size ≠ g := by omega
  have hk2 : w.heap.size + 1 ≠ g := by omega
  have hk1' : g ≠ w.heap.size := by omega
  have hk2' : g ≠ w.heap.size + 1 := by omega
  have HS := Lib.hid hr
  clear hr
  have HL := Lib.hid hl
  clear hl
  go_enter Tryd.func32, Tryd.ntmps32
  go_wp2_with fail
  have e1 : (w.alloc (.cells zeroM 27)).heap.size = w.heap.size + 1 := by simp
  have hB : But g w ((w.alloc (.cells zeroM 27)).alloc (.cells zeroM 27)) := ((But.refl g w).alloc _).alloc _
  have hR : RdAt g (cut r 0 r.size) ((w.alloc (.cells zeroM 27)).alloc (.cells zeroM 27)) := ((by rw [cut_all]; exact h : RdAt g (cut r 0 r.size) w).past _).past _
  have hE0 : TabE T v ((w.alloc (.cells zeroM 27)).alloc (.cells zeroM 27)) := TabE.but hB hg0 hE
  have q0 : BlkAt w.heap.size zeroM 27 ((w.alloc (.cells zeroM 27)).alloc (.cells zeroM 27)) := (BlkAt.box _ _ _).past _
  have o0 : BlkAt (w.heap.size + 1) zeroM 27 ((w.alloc (.cells zeroM 27)).alloc (.cells zeroM 27)) := by rw [← e1]; exact BlkAt.box _ _ _
  clear e1
  refine (take_at g r 0 32 _ hR (by have := HL.out; omega) HS.out ).mono ?_
  rintro e w1 ⟨rfl, hR, hb⟩
  have hB := hB.trans hb
  have hE0 := TabE.but hb hg0 hE0
  have q0 := BlkAt.but hb hk1 q0
  have o0 := BlkAt.but hb hk2 o0
  clear hb
  have c0 := o0.cell (j := 0) rfl
  have f0 := o0.froz (j := 0)
  go_wp2_with fail
  clear c0 f0
  have hR := BlkAt.other hR 0 (.string (cut r 0 32)) hk2'
  have hB := But.setNew hB (w.heap.size + 1) 0 (.string (cut r 0 32)) (by omega)
  have hE0 : TabE T v _ := ⟨Nat.lt_of_lt_of_le hE0.1 (by simp), (World.cell?_of_block (w := w1) (a := ⟨0, 0, none⟩) (heap_setCell_other w1 ⟨w.heap.size + 1, 0, none⟩ _ (.string (cut r 0 32)) (by show (0 : Nat) ≠ w.heap.size + 1; have := hEl; omega))).trans hE0.2⟩
  have q0 := BlkAt.other q0 0 (.string (cut r 0 32)) (show w.heap.size ≠ w.heap.size + 1 by omega)
  have o0 : BlkAt (w.heap.size + 1) #[.string (cut r 0 32), .int .i64 0, .int .i64 0, .string ⟨#[]⟩] 27 _ := BlkAt.set o0 0 (.string (cut r 0 32))
  refine (number_at g r 32 2 _ hR (by have := HL.out; omega) HS.out (by omega) (by omega)).mono ?_
  rintro e w2 ⟨rfl, hR, hb⟩
  have hB := hB.trans hb
  have hE0 := TabE.but hb hg0 hE0
  have q0 := BlkAt.but hb hk1 q0
  have o0 := BlkAt.but hb hk2 o0
  clear hb
  have c1 := o0.cell (j := 1) rfl
  have f1 := o0.froz (j := 1)
  go_wp2_with fail
  clear c1 f1
  have hR := BlkAt.other hR 1 (.int .i64 (numOf (cut r 32 34).data.toList : Nat)) hk2'
  have hB := But.setNew hB (w.heap.size + 1) 1 (.int .i64 (numOf (cut r 32 34).data.toList : Nat)) (by omega)
  have hE0 : TabE T v _ := ⟨Nat.lt_of_lt_of_le hE0.1 (by simp), (World.cell?_of_block (w := w2) (a := ⟨0, 0, none⟩) (heap_setCell_other w2 ⟨w.heap.size + 1, 1, none⟩ _ (.int .i64 (numOf (cut r 32 34).data.toList : Nat)) (by show (0 : Nat) ≠ w.heap.size + 1; have := hEl; omega))).trans hE0.2⟩
  have q0 := BlkAt.other q0 1 (.int .i64 (numOf (cut r 32 34).data.toList : Nat)) (show w.heap.size ≠ w.heap.size + 1 by omega)
  have o0 : BlkAt (w.heap.size + 1) #[.string (cut r 0 32), .int .i64 (numOf (cut r 32 34).data.toList : Nat), .int .i64 0, .string ⟨#[]⟩] 27 _ := BlkAt.set o0 1 (.int .i64 (numOf (cut r 32 34).data.toList : Nat))
  refine (number_at g r 34 2 _ hR (by have := HL.out; omega) HS.out (by omega) (by omega)).mono ?_
  rintro e w3 ⟨rfl, hR, hb⟩
  have hB := hB.trans hb
  have hE0 := TabE.but hb hg0 hE0
  have q0 := BlkAt.but hb hk1 q0
  have o0 := BlkAt.but hb hk2 o0
  clear hb
  have c2 := o0.cell (j := 2) rfl
  have f2 := o0.froz (j := 2)
  go_wp2_with fail
  clear c2 f2
  have hR := BlkAt.other hR 2 (.int .i64 (numOf (cut r 34 36).data.toList : Nat)) hk2'
  have hB := But.setNew hB (w.heap.size + 1) 2 (.int .i64 (numOf (cut r 34 36).data.toList : Nat)) (by omega)
  have hE0 : TabE T v _ := ⟨Nat.lt_of_lt_of_le hE0.1 (by simp), (World.cell?_of_block (w := w3) (a := ⟨0, 0, none⟩) (heap_setCell_other w3 ⟨w.heap.size + 1, 2, none⟩ _ (.int .i64 (numOf (cut r 34 36).data.toList : Nat)) (by show (0 : Nat) ≠ w.heap.size + 1; have := hEl; omega))).trans hE0.2⟩
  have q0 := BlkAt.other q0 2 (.int .i64 (numOf (cut r 34 36).data.toList : Nat)) (show w.heap.size ≠ w.heap.size + 1 by omega)
  have o0 : BlkAt (w.heap.size + 1) #[.string (cut r 0 32), .int .i64 (numOf (cut r 32 34).data.toList : Nat), .int .i64 (numOf (cut r 34 36).data.toList : Nat), .string ⟨#[]⟩] 27 _ := BlkAt.set o0 2 (.int .i64 (numOf (cut r 34 36).data.toList : Nat))
  refine (number_at_no g r 36 2 _ T v hE0 hR (by have := HL.out; omega) (by have := HL.out; omega) (by have := HL.out; omega)).mono ?_
  rintro e w9 ⟨rfl, rfl⟩
  exact ⟨rfl, rfl, hB⟩

theorem num2_lt (r : ByteArray) (i : Nat) (h : i + 2 ≤ r.size) : numOf (cut r i (i + 2)).data.toList < 65536 := by
  have := numOf_lt (cut r i (i + 2)).data.toList
  rw [len_data, cut_size r i (i + 2) h] at this
  have e : i + 2 - i = 2 := by omega
  rw [e] at this
  omega

set_option maxHeartbeats 4000000 in
theorem message_no4 (g : Nat) (r : ByteArray) (w : World) (T : TypeId) (v : Value) (hE : TabE T v w) (h : RdAt g r w) (hg0 : 0 ≠ g) (hr : r.size ≤ 1048576) (n : Nat) (hn : numOf (cut r 36 38).data.toList = n) (hl : 38 ≤ r.size ∧ r.size < 38 + n) :
    Calls Tryd.prog 32 #[.pointer (some ⟨g, 0, none⟩)] w fun e w' => e = panE T v ∧ But g w w' := by
  have hgl := h.lt
  have hEl := hE.1
  have hk1 : w.heap.size ≠ g := by omega
  have hk2 : w.heap.size + 1 ≠ g := by omega
  have hk1' : g ≠ w.heap.size := by omega
  have hk2' : g ≠ w.heap.size + 1 := by omega
  have HS := Lib.hid hr
  clear hr
  have HL := Lib.hid (show 38 ≤ r.size ∧ r.size < 38 + n ∧ n < 65536 from ⟨hl.1, hl.2, hn ▸ num2_lt r 36 (by omega)⟩)
  clear hl
  go_enter Tryd.func32, Tryd.ntmps32
  go_wp2_with fail
  have e1 : (w.alloc (.cells zeroM 27)).heap.size = w.heap.size + 1 := by simp
  have hB : But g w ((w.alloc (.cells zeroM 27)).alloc (.cells zeroM 27)) := ((But.refl g w).alloc _).alloc _
  have hR : RdAt g (cut r 0 r.size) ((w.alloc (.cells zeroM 27)).alloc (.cells zeroM 27)) := ((by rw [cut_all]; exact h : RdAt g (cut r 0 r.size) w).past _).past _
  have hE0 : TabE T v ((w.alloc (.cells zeroM 27)).alloc (.cells zeroM 27)) := TabE.but hB hg0 hE
  have q0 : BlkAt w.heap.size zeroM 27 ((w.alloc (.cells zeroM 27)).alloc (.cells zeroM 27)) := (BlkAt.box _ _ _).past _
  have o0 : BlkAt (w.heap.size + 1) zeroM 27 ((w.alloc (.cells zeroM 27)).alloc (.cells zeroM 27)) := by rw [← e1]; exact BlkAt.box _ _ _
  clear e1
  refine (take_at g r 0 32 _ hR (by have := HL.out; omega) HS.out ).mono ?_
  rintro e w1 ⟨rfl, hR, hb⟩
  have hB := hB.trans hb
  have hE0 := TabE.but hb hg0 hE0
  have q0 := BlkAt.but hb hk1 q0
  have o0 := BlkAt.but hb hk2 o0
  clear hb
  have c0 := o0.cell (j := 0) rfl
  have f0 := o0.froz (j := 0)
  go_wp2_with fail
  clear c0 f0
  have hR := BlkAt.other hR 0 (.string (cut r 0 32)) hk2'
  have hB := But.setNew hB (w.heap.size + 1) 0 (.string (cut r 0 32)) (by omega)
  have hE0 : TabE T v _ := ⟨Nat.lt_of_lt_of_le hE0.1 (by simp), (World.cell?_of_block (w := w1) (a := ⟨0, 0, none⟩) (heap_setCell_other w1 ⟨w.heap.size + 1, 0, none⟩ _ (.string (cut r 0 32)) (by show (0 : Nat) ≠ w.heap.size + 1; have := hEl; omega))).trans hE0.2⟩
  have q0 := BlkAt.other q0 0 (.string (cut r 0 32)) (show w.heap.size ≠ w.heap.size + 1 by omega)
  have o0 : BlkAt (w.heap.size + 1) #[.string (cut r 0 32), .int .i64 0, .int .i64 0, .string ⟨#[]⟩] 27 _ := BlkAt.set o0 0 (.string (cut r 0 32))
  refine (number_at g r 32 2 _ hR (by have := HL.out; omega) HS.out (by omega) (by omega)).mono ?_
  rintro e w2 ⟨rfl, hR, hb⟩
  have hB := hB.trans hb
  have hE0 := TabE.but hb hg0 hE0
  have q0 := BlkAt.but hb hk1 q0
  have o0 := BlkAt.but hb hk2 o0
  clear hb
  have c1 := o0.cell (j := 1) rfl
  have f1 := o0.froz (j := 1)
  go_wp2_with fail
  clear c1 f1
  have hR := BlkAt.other hR 1 (.int .i64 (numOf (cut r 32 34).data.toList : Nat)) hk2'
  have hB := But.setNew hB (w.heap.size + 1) 1 (.int .i64 (numOf (cut r 32 34).data.toList : Nat)) (by omega)
  have hE0 : TabE T v _ := ⟨Nat.lt_of_lt_of_le hE0.1 (by simp), (World.cell?_of_block (w := w2) (a := ⟨0, 0, none⟩) (heap_setCell_other w2 ⟨w.heap.size + 1, 1, none⟩ _ (.int .i64 (numOf (cut r 32 34).data.toList : Nat)) (by show (0 : Nat) ≠ w.heap.size + 1; have := hEl; omega))).trans hE0.2⟩
  have q0 := BlkAt.other q0 1 (.int .i64 (numOf (cut r 32 34).data.toList : Nat)) (show w.heap.size ≠ w.heap.size + 1 by omega)
  have o0 : BlkAt (w.heap.size + 1) #[.string (cut r 0 32), .int .i64 (numOf (cut r 32 34).data.toList : Nat), .int .i64 0, .string ⟨#[]⟩] 27 _ := BlkAt.set o0 1 (.int .i64 (numOf (cut r 32 34).data.toList : Nat))
  refine (number_at g r 34 2 _ hR (by have := HL.out; omega) HS.out (by omega) (by omega)).mono ?_
  rintro e w3 ⟨rfl, hR, hb⟩
  have hB := hB.trans hb
  have hE0 := TabE.but hb hg0 hE0
  have q0 := BlkAt.but hb hk1 q0
  have o0 := BlkAt.but hb hk2 o0
  clear hb
  have c2 := o0.cell (j := 2) rfl
  have f2 := o0.froz (j := 2)
  go_wp2_with fail
  clear c2 f2
  have hR := BlkAt.other hR 2 (.int .i64 (numOf (cut r 34 36).data.toList : Nat)) hk2'
  have hB := But.setNew hB (w.heap.size + 1) 2 (.int .i64 (numOf (cut r 34 36).data.toList : Nat)) (by omega)
  have hE0 : TabE T v _ := ⟨Nat.lt_of_lt_of_le hE0.1 (by simp), (World.cell?_of_block (w := w3) (a := ⟨0, 0, none⟩) (heap_setCell_other w3 ⟨w.heap.size + 1, 2, none⟩ _ (.int .i64 (numOf (cut r 34 36).data.toList : Nat)) (by show (0 : Nat) ≠ w.heap.size + 1; have := hEl; omega))).trans hE0.2⟩
  have q0 := BlkAt.other q0 2 (.int .i64 (numOf (cut r 34 36).data.toList : Nat)) (show w.heap.size ≠ w.heap.size + 1 by omega)
  have o0 : BlkAt (w.heap.size + 1) #[.string (cut r 0 32), .int .i64 (numOf (cut r 32 34).data.toList : Nat), .int .i64 (numOf (cut r 34 36).data.toList : Nat), .string ⟨#[]⟩] 27 _ := BlkAt.set o0 2 (.int .i64 (numOf (cut r 34 36).data.toList : Nat))
  refine (number_at g r 36 2 _ hR (by have := HL.out; omega) HS.out (by omega) (by omega)).mono ?_
  rintro e w4 ⟨rfl, hR, hb⟩
  have hB := hB.trans hb
  have hE0 := TabE.but hb hg0 hE0
  have q0 := BlkAt.but hb hk1 q0
  have o0 := BlkAt.but hb hk2 o0
  clear hb
  go_wp2_with fail
  try rw [hn]
  refine (take_at_no g r 38 n _ T v hE0 hR (by have := HL.out; omega) (by have := HL.out; omega) (by have := HL.out; omega)).mono ?_
  rintro e w9 ⟨rfl, rfl⟩
  exact ⟨rfl, rfl, hB⟩

set_option maxHeartbeats 4000000 in
theorem message_no5 (g : Nat) (r : ByteArray) (w : World) (T : TypeId) (v : Value) (hE : TabE T v w) (h : RdAt g r w) (hg0 : 0 ≠ g) (hr : r.size ≤ 1048576) (n : Nat) (hn : numOf (cut r 36 38).data.toList = n) (hl : 38 + n ≤ r.size) (hm : ¬ MsgP (cut r 0 32) (numOf (cut r 32 34).data.toList : Nat) (numOf (cut r 34 36).data.toList : Nat) (cut r 38 (38 + n))) :
    Calls Tryd.prog 32 #[.pointer (some ⟨g, 0, none⟩)] w fun e w' => e = panE T v ∧ But g w w' := by
  have hgl := h.lt
  have hEl := hE.1
  have hk1 : w.heap.size ≠ g := by omega
  have hk2 : w.heap.size + 1 ≠ g := by omega
  have hk1' : g ≠ w.heap.size := by omega
  have hk2' : g ≠ w.heap.size + 1 := by omega
  have HS := Lib.hid hr
  clear hr
  have HL := Lib.hid hl
  have HK := Lib.hid (fun w => msgOk_i (cut r 0 32) (numOf (cut r 32 34).data.toList : Nat) (numOf (cut r 34 36).data.toList : Nat) (cut r 38 (38 + n)) w false (decide_eq_false hm) (by rw [cut_size _ _ _ (by omega)]; omega) (by rw [cut_size _ _ _ (by omega)]; have := HS.out; omega))
  clear hl hm
  go_enter Tryd.func32, Tryd.ntmps32
  go_wp2_with fail
  have e1 : (w.alloc (.cells zeroM 27)).heap.size = w.heap.size + 1 := by simp
  have hB : But g w ((w.alloc (.cells zeroM 27)).alloc (.cells zeroM 27)) := ((But.refl g w).alloc _).alloc _
  have hR : RdAt g (cut r 0 r.size) ((w.alloc (.cells zeroM 27)).alloc (.cells zeroM 27)) := ((by rw [cut_all]; exact h : RdAt g (cut r 0 r.size) w).past _).past _
  have hE0 : TabE T v ((w.alloc (.cells zeroM 27)).alloc (.cells zeroM 27)) := TabE.but hB hg0 hE
  have q0 : BlkAt w.heap.size zeroM 27 ((w.alloc (.cells zeroM 27)).alloc (.cells zeroM 27)) := (BlkAt.box _ _ _).past _
  have o0 : BlkAt (w.heap.size + 1) zeroM 27 ((w.alloc (.cells zeroM 27)).alloc (.cells zeroM 27)) := by rw [← e1]; exact BlkAt.box _ _ _
  clear e1
  refine (take_at g r 0 32 _ hR (by have := HL.out; omega) HS.out ).mono ?_
  rintro e w1 ⟨rfl, hR, hb⟩
  have hB := hB.trans hb
  have hE0 := TabE.but hb hg0 hE0
  have q0 := BlkAt.but hb hk1 q0
  have o0 := BlkAt.but hb hk2 o0
  clear hb
  have c0 := o0.cell (j := 0) rfl
  have f0 := o0.froz (j := 0)
  go_wp2_with fail
  clear c0 f0
  have hR := BlkAt.other hR 0 (.string (cut r 0 32)) hk2'
  have hB := But.setNew hB (w.heap.size + 1) 0 (.string (cut r 0 32)) (by omega)
  have hE0 : TabE T v _ := ⟨Nat.lt_of_lt_of_le hE0.1 (by simp), (World.cell?_of_block (w := w1) (a := ⟨0, 0, none⟩) (heap_setCell_other w1 ⟨w.heap.size + 1, 0, none⟩ _ (.string (cut r 0 32)) (by show (0 : Nat) ≠ w.heap.size + 1; have := hEl; omega))).trans hE0.2⟩
  have q0 := BlkAt.other q0 0 (.string (cut r 0 32)) (show w.heap.size ≠ w.heap.size + 1 by omega)
  have o0 : BlkAt (w.heap.size + 1) #[.string (cut r 0 32), .int .i64 0, .int .i64 0, .string ⟨#[]⟩] 27 _ := BlkAt.set o0 0 (.string (cut r 0 32))
  refine (number_at g r 32 2 _ hR (by have := HL.out; omega) HS.out (by omega) (by omega)).mono ?_
  rintro e w2 ⟨rfl, hR, hb⟩
  have hB := hB.trans hb
  have hE0 := TabE.but hb hg0 hE0
  have q0 := BlkAt.but hb hk1 q0
  have o0 := BlkAt.but hb hk2 o0
  clear hb
  have c1 := o0.cell (j := 1) rfl
  have f1 := o0.froz (j := 1)
  go_wp2_with fail
  clear c1 f1
  have hR := BlkAt.other hR 1 (.int .i64 (numOf (cut r 32 34).data.toList : Nat)) hk2'
  have hB := But.setNew hB (w.heap.size + 1) 1 (.int .i64 (numOf (cut r 32 34).data.toList : Nat)) (by omega)
  have hE0 : TabE T v _ := ⟨Nat.lt_of_lt_of_le hE0.1 (by simp), (World.cell?_of_block (w := w2) (a := ⟨0, 0, none⟩) (heap_setCell_other w2 ⟨w.heap.size + 1, 1, none⟩ _ (.int .i64 (numOf (cut r 32 34).data.toList : Nat)) (by show (0 : Nat) ≠ w.heap.size + 1; have := hEl; omega))).trans hE0.2⟩
  have q0 := BlkAt.other q0 1 (.int .i64 (numOf (cut r 32 34).data.toList : Nat)) (show w.heap.size ≠ w.heap.size + 1 by omega)
  have o0 : BlkAt (w.heap.size + 1) #[.string (cut r 0 32), .int .i64 (numOf (cut r 32 34).data.toList : Nat), .int .i64 0, .string ⟨#[]⟩] 27 _ := BlkAt.set o0 1 (.int .i64 (numOf (cut r 32 34).data.toList : Nat))
  refine (number_at g r 34 2 _ hR (by have := HL.out; omega) HS.out (by omega) (by omega)).mono ?_
  rintro e w3 ⟨rfl, hR, hb⟩
  have hB := hB.trans hb
  have hE0 := TabE.but hb hg0 hE0
  have q0 := BlkAt.but hb hk1 q0
  have o0 := BlkAt.but hb hk2 o0
  clear hb
  have c2 := o0.cell (j := 2) rfl
  have f2 := o0.froz (j := 2)
  go_wp2_with fail
  clear c2 f2
  have hR := BlkAt.other hR 2 (.int .i64 (numOf (cut r 34 36).data.toList : Nat)) hk2'
  have hB := But.setNew hB (w.heap.size + 1) 2 (.int .i64 (numOf (cut r 34 36).data.toList : Nat)) (by omega)
  have hE0 : TabE T v _ := ⟨Nat.lt_of_lt_of_le hE0.1 (by simp), (World.cell?_of_block (w := w3) (a := ⟨0, 0, none⟩) (heap_setCell_other w3 ⟨w.heap.size + 1, 2, none⟩ _ (.int .i64 (numOf (cut r 34 36).data.toList : Nat)) (by show (0 : Nat) ≠ w.heap.size + 1; have := hEl; omega))).trans hE0.2⟩
  have q0 := BlkAt.other q0 2 (.int .i64 (numOf (cut r 34 36).data.toList : Nat)) (show w.heap.size ≠ w.heap.size + 1 by omega)
  have o0 : BlkAt (w.heap.size + 1) #[.string (cut r 0 32), .int .i64 (numOf (cut r 32 34).data.toList : Nat), .int .i64 (numOf (cut r 34 36).data.toList : Nat), .string ⟨#[]⟩] 27 _ := BlkAt.set o0 2 (.int .i64 (numOf (cut r 34 36).data.toList : Nat))
  refine (number_at g r 36 2 _ hR (by have := HL.out; omega) HS.out (by omega) (by omega)).mono ?_
  rintro e w4 ⟨rfl, hR, hb⟩
  have hB := hB.trans hb
  have hE0 := TabE.but hb hg0 hE0
  have q0 := BlkAt.but hb hk1 q0
  have o0 := BlkAt.but hb hk2 o0
  clear hb
  go_wp2_with fail
  try rw [hn]
  refine (take_at g r 38 n _ hR (by have := HL.out; omega) HS.out ).mono ?_
  rintro e w5 ⟨rfl, hR, hb⟩
  have hB := hB.trans hb
  have hE0 := TabE.but hb hg0 hE0
  have q0 := BlkAt.but hb hk1 q0
  have o0 := BlkAt.but hb hk2 o0
  clear hb
  have c3 := o0.cell (j := 3) rfl
  have f3 := o0.froz (j := 3)
  have c0 := o0.cell (j := 0) rfl
  have c1 := o0.cell (j := 1) rfl
  have c2 := o0.cell (j := 2) rfl
  go_wp2_with fail
  clear c3 f3 c0 c1 c2
  have hR := BlkAt.other hR 3 (.string (cut r 38 (38 + n))) hk2'
  have hB := But.setNew hB (w.heap.size + 1) 3 (.string (cut r 38 (38 + n))) (by omega)
  have hE0 : TabE T v _ := ⟨Nat.lt_of_lt_of_le hE0.1 (by simp), (World.cell?_of_block (w := w5) (a := ⟨0, 0, none⟩) (heap_setCell_other w5 ⟨w.heap.size + 1, 3, none⟩ _ (.string (cut r 38 (38 + n))) (by show (0 : Nat) ≠ w.heap.size + 1; have := hEl; omega))).trans hE0.2⟩
  have q0 := BlkAt.other q0 3 (.string (cut r 38 (38 + n))) (show w.heap.size ≠ w.heap.size + 1 by omega)
  have o0 : BlkAt (w.heap.size + 1) #[.string (cut r 0 32), .int .i64 (numOf (cut r 32 34).data.toList : Nat), .int .i64 (numOf (cut r 34 36).data.toList : Nat), .string (cut r 38 (38 + n))] 27 _ := BlkAt.set o0 3 (.string (cut r 38 (38 + n)))
  refine (HK.out _).mono ?_
  rintro e w6 ⟨rfl, hb⟩
  have hB := hB.trans (But.of_below hb)
  have hE0 := TabE.below hb hE0
  have hR := BlkAt.below hb hR
  have q0 := BlkAt.below hb q0
  have o0 := BlkAt.below hb o0
  clear hb
  go_wp2_with fail
  refine (need_no g _ T v hE0).mono ?_
  rintro e w9 ⟨rfl, rfl⟩
  exact ⟨rfl, rfl, hB⟩

set_option maxHeartbeats 4000000 in
theorem message_yes (g : Nat) (r : ByteArray) (w : World) (T : TypeId) (v : Value) (hE : TabE T v w) (h : RdAt g r w) (hg0 : 0 ≠ g) (hr : r.size ≤ 1048576) (n : Nat) (hn : numOf (cut r 36 38).data.toList = n) (hl : 38 + n ≤ r.size) (hm : MsgP (cut r 0 32) (numOf (cut r 32 34).data.toList : Nat) (numOf (cut r 34 36).data.toList : Nat) (cut r 38 (38 + n))) :
    Calls Tryd.prog 32 #[.pointer (some ⟨g, 0, none⟩)] w fun e w' => e = .returned (.agg (msgA (cut r 0 32) (numOf (cut r 32 34).data.toList : Nat) (numOf (cut r 34 36).data.toList : Nat) (cut r 38 (38 + n)))) ∧ RdAt g (cut r (38 + n) r.size) w' ∧ But g w w' := by
  have hgl := h.lt
  have hEl := hE.1
  have hk1 : w.heap.size ≠ g := by omega
  have hk2 : w.heap.size + 1 ≠ g := by omega
  have hk1' : g ≠ w.heap.size := by omega
  have hk2' : g ≠ w.heap.size + 1 := by omega
  have HS := Lib.hid hr
  clear hr
  have HL := Lib.hid hl
  have HK := Lib.hid (fun w => msgOk_i (cut r 0 32) (numOf (cut r 32 34).data.toList : Nat) (numOf (cut r 34 36).data.toList : Nat) (cut r 38 (38 + n)) w true (decide_eq_true hm) (by rw [cut_size _ _ _ (by omega)]; omega) (by rw [cut_size _ _ _ (by omega)]; have := HS.out; omega))
  clear hl hm
  go_enter Tryd.func32, Tryd.ntmps32
  go_wp2_with fail
  have e1 : (w.alloc (.cells zeroM 27)).heap.size = w.heap.size + 1 := by simp
  have hB : But g w ((w.alloc (.cells zeroM 27)).alloc (.cells zeroM 27)) := ((But.refl g w).alloc _).alloc _
  have hR : RdAt g (cut r 0 r.size) ((w.alloc (.cells zeroM 27)).alloc (.cells zeroM 27)) := ((by rw [cut_all]; exact h : RdAt g (cut r 0 r.size) w).past _).past _
  have hE0 : TabE T v ((w.alloc (.cells zeroM 27)).alloc (.cells zeroM 27)) := TabE.but hB hg0 hE
  have q0 : BlkAt w.heap.size zeroM 27 ((w.alloc (.cells zeroM 27)).alloc (.cells zeroM 27)) := (BlkAt.box _ _ _).past _
  have o0 : BlkAt (w.heap.size + 1) zeroM 27 ((w.alloc (.cells zeroM 27)).alloc (.cells zeroM 27)) := by rw [← e1]; exact BlkAt.box _ _ _
  clear e1
  refine (take_at g r 0 32 _ hR (by have := HL.out; omega) HS.out ).mono ?_
  rintro e w1 ⟨rfl, hR, hb⟩
  have hB := hB.trans hb
  have hE0 := TabE.but hb hg0 hE0
  have q0 := BlkAt.but hb hk1 q0
  have o0 := BlkAt.but hb hk2 o0
  clear hb
  have c0 := o0.cell (j := 0) rfl
  have f0 := o0.froz (j := 0)
  go_wp2_with fail
  clear c0 f0
  have hR := BlkAt.other hR 0 (.string (cut r 0 32)) hk2'
  have hB := But.setNew hB (w.heap.size + 1) 0 (.string (cut r 0 32)) (by omega)
  have hE0 : TabE T v _ := ⟨Nat.lt_of_lt_of_le hE0.1 (by simp), (World.cell?_of_block (w := w1) (a := ⟨0, 0, none⟩) (heap_setCell_other w1 ⟨w.heap.size + 1, 0, none⟩ _ (.string (cut r 0 32)) (by show (0 : Nat) ≠ w.heap.size + 1; have := hEl; omega))).trans hE0.2⟩
  have q0 := BlkAt.other q0 0 (.string (cut r 0 32)) (show w.heap.size ≠ w.heap.size + 1 by omega)
  have o0 : BlkAt (w.heap.size + 1) #[.string (cut r 0 32), .int .i64 0, .int .i64 0, .string ⟨#[]⟩] 27 _ := BlkAt.set o0 0 (.string (cut r 0 32))
  refine (number_at g r 32 2 _ hR (by have := HL.out; omega) HS.out (by omega) (by omega)).mono ?_
  rintro e w2 ⟨rfl, hR, hb⟩
  have hB := hB.trans hb
  have hE0 := TabE.but hb hg0 hE0
  have q0 := BlkAt.but hb hk1 q0
  have o0 := BlkAt.but hb hk2 o0
  clear hb
  have c1 := o0.cell (j := 1) rfl
  have f1 := o0.froz (j := 1)
  go_wp2_with fail
  clear c1 f1
  have hR := BlkAt.other hR 1 (.int .i64 (numOf (cut r 32 34).data.toList : Nat)) hk2'
  have hB := But.setNew hB (w.heap.size + 1) 1 (.int .i64 (numOf (cut r 32 34).data.toList : Nat)) (by omega)
  have hE0 : TabE T v _ := ⟨Nat.lt_of_lt_of_le hE0.1 (by simp), (World.cell?_of_block (w := w2) (a := ⟨0, 0, none⟩) (heap_setCell_other w2 ⟨w.heap.size + 1, 1, none⟩ _ (.int .i64 (numOf (cut r 32 34).data.toList : Nat)) (by show (0 : Nat) ≠ w.heap.size + 1; have := hEl; omega))).trans hE0.2⟩
  have q0 := BlkAt.other q0 1 (.int .i64 (numOf (cut r 32 34).data.toList : Nat)) (show w.heap.size ≠ w.heap.size + 1 by omega)
  have o0 : BlkAt (w.heap.size + 1) #[.string (cut r 0 32), .int .i64 (numOf (cut r 32 34).data.toList : Nat), .int .i64 0, .string ⟨#[]⟩] 27 _ := BlkAt.set o0 1 (.int .i64 (numOf (cut r 32 34).data.toList : Nat))
  refine (number_at g r 34 2 _ hR (by have := HL.out; omega) HS.out (by omega) (by omega)).mono ?_
  rintro e w3 ⟨rfl, hR, hb⟩
  have hB := hB.trans hb
  have hE0 := TabE.but hb hg0 hE0
  have q0 := BlkAt.but hb hk1 q0
  have o0 := BlkAt.but hb hk2 o0
  clear hb
  have c2 := o0.cell (j := 2) rfl
  have f2 := o0.froz (j := 2)
  go_wp2_with fail
  clear c2 f2
  have hR := BlkAt.other hR 2 (.int .i64 (numOf (cut r 34 36).data.toList : Nat)) hk2'
  have hB := But.setNew hB (w.heap.size + 1) 2 (.int .i64 (numOf (cut r 34 36).data.toList : Nat)) (by omega)
  have hE0 : TabE T v _ := ⟨Nat.lt_of_lt_of_le hE0.1 (by simp), (World.cell?_of_block (w := w3) (a := ⟨0, 0, none⟩) (heap_setCell_other w3 ⟨w.heap.size + 1, 2, none⟩ _ (.int .i64 (numOf (cut r 34 36).data.toList : Nat)) (by show (0 : Nat) ≠ w.heap.size + 1; have := hEl; omega))).trans hE0.2⟩
  have q0 := BlkAt.other q0 2 (.int .i64 (numOf (cut r 34 36).data.toList : Nat)) (show w.heap.size ≠ w.heap.size + 1 by omega)
  have o0 : BlkAt (w.heap.size + 1) #[.string (cut r 0 32), .int .i64 (numOf (cut r 32 34).data.toList : Nat), .int .i64 (numOf (cut r 34 36).data.toList : Nat), .string ⟨#[]⟩] 27 _ := BlkAt.set o0 2 (.int .i64 (numOf (cut r 34 36).data.toList : Nat))
  refine (number_at g r 36 2 _ hR (by have := HL.out; omega) HS.out (by omega) (by omega)).mono ?_
  rintro e w4 ⟨rfl, hR, hb⟩
  have hB := hB.trans hb
  have hE0 := TabE.but hb hg0 hE0
  have q0 := BlkAt.but hb hk1 q0
  have o0 := BlkAt.but hb hk2 o0
  clear hb
  go_wp2_with fail
  try rw [hn]
  refine (take_at g r 38 n _ hR (by have := HL.out; omega) HS.out ).mono ?_
  rintro e w5 ⟨rfl, hR, hb⟩
  have hB := hB.trans hb
  have hE0 := TabE.but hb hg0 hE0
  have q0 := BlkAt.but hb hk1 q0
  have o0 := BlkAt.but hb hk2 o0
  clear hb
  have c3 := o0.cell (j := 3) rfl
  have f3 := o0.froz (j := 3)
  have c0 := o0.cell (j := 0) rfl
  have c1 := o0.cell (j := 1) rfl
  have c2 := o0.cell (j := 2) rfl
  go_wp2_with fail
  clear c3 f3 c0 c1 c2
  have hR := BlkAt.other hR 3 (.string (cut r 38 (38 + n))) hk2'
  have hB := But.setNew hB (w.heap.size + 1) 3 (.string (cut r 38 (38 + n))) (by omega)
  have hE0 : TabE T v _ := ⟨Nat.lt_of_lt_of_le hE0.1 (by simp), (World.cell?_of_block (w := w5) (a := ⟨0, 0, none⟩) (heap_setCell_other w5 ⟨w.heap.size + 1, 3, none⟩ _ (.string (cut r 38 (38 + n))) (by show (0 : Nat) ≠ w.heap.size + 1; have := hEl; omega))).trans hE0.2⟩
  have q0 := BlkAt.other q0 3 (.string (cut r 38 (38 + n))) (show w.heap.size ≠ w.heap.size + 1 by omega)
  have o0 : BlkAt (w.heap.size + 1) #[.string (cut r 0 32), .int .i64 (numOf (cut r 32 34).data.toList : Nat), .int .i64 (numOf (cut r 34 36).data.toList : Nat), .string (cut r 38 (38 + n))] 27 _ := BlkAt.set o0 3 (.string (cut r 38 (38 + n)))
  refine (HK.out _).mono ?_
  rintro e w6 ⟨rfl, hb⟩
  have hB := hB.trans (But.of_below hb)
  have hE0 := TabE.below hb hE0
  have hR := BlkAt.below hb hR
  have q0 := BlkAt.below hb q0
  have o0 := BlkAt.below hb o0
  clear hb
  go_wp2_with fail
  refine (need_yes g _).mono ?_
  rintro e w9 ⟨rfl, rfl⟩
  have c0 := o0.cell (j := 0) rfl
  have d0 := q0.cell (j := 0) rfl
  have f0 := q0.froz (j := 0)
  have c1 := o0.cell (j := 1) rfl
  have d1 := q0.cell (j := 1) rfl
  have f1 := q0.froz (j := 1)
  have c2 := o0.cell (j := 2) rfl
  have d2 := q0.cell (j := 2) rfl
  have f2 := q0.froz (j := 2)
  have c3 := o0.cell (j := 3) rfl
  have d3 := q0.cell (j := 3) rfl
  have f3 := q0.froz (j := 3)
  go_wp2
  refine bodyPost_ret (v := .agg (msgA (cut r 0 32) (numOf (cut r 32 34).data.toList : Nat) (numOf (cut r 34 36).data.toList : Nat) (cut r 38 (38 + n)))) (by simp [results, Tryd.results32, go_sem, *]) rfl ⟨rfl, ?_, ?_⟩
  · exact (((hR.other 0 _ hk1').other 1 _ hk1').other 2 _ hk1').other 3 _ hk1'
  · exact (((hB.setNew _ 0 _ (Nat.le_refl _)).setNew _ 1 _ (Nat.le_refl _)).setNew _ 2 _ (Nat.le_refl _)).setNew _ 3 _ (Nat.le_refl _)

end Go.Proofs.YtmolcpojdojmlaaDoor
