/- The reader's flag, initial keys and envelope. -/
import Derived.Test.YtmolcpojdojmlaaDoorRdM3
import Derived.Test.YtmolcpojdojmlaaDoorWireE
namespace Go.Proofs.YtmolcpojdojmlaaDoor
open Go.RowKit Go.My Go.Lib
set_option linter.unusedVariables false

theorem num1_lt (r : ByteArray) (i : Nat) (h : i + 1 ≤ r.size) : numOf (cut r i (i + 1)).data.toList < 256 := by
  have := numOf_lt (cut r i (i + 1)).data.toList
  rw [len_data, cut_size r i (i + 1) h] at this
  have e : i + 1 - i = 1 := by omega
  rw [e] at this
  omega

set_option maxHeartbeats 2000000 in
theorem flag_false (g : Nat) (r : ByteArray) (i : Nat) (w : World) (h : RdAt g (cut r i r.size) w) (hn : i + 1 ≤ r.size) (hr : r.size ≤ 1048576) (hc : numOf (cut r i (i + 1)).data.toList = 0) :
    Calls Tryd.prog 45 #[.pointer (some ⟨g, 0, none⟩)] w fun e w' => e = .returned (.bool false) ∧ RdAt g (cut r (i + 1) r.size) w' ∧ But g w w' := by
  have H1 := Lib.hid (number_at g r i 1 w h hn hr (by omega) (by omega))
  rw [hc] at H1
  clear hc hn hr h
  go_enter Tryd.func45, Tryd.ntmps45
  go_wp2_with fail
  refine H1.out.mono ?_
  rintro e w1 ⟨rfl, hR, hb⟩
  go_wp2_with fail
  refine (need_yes g _).mono ?_
  rintro e w2 ⟨rfl, rfl⟩
  go_wp2
  go_ret
  exact ⟨rfl, hR, hb⟩

set_option maxHeartbeats 2000000 in
theorem flag_true (g : Nat) (r : ByteArray) (i : Nat) (w : World) (h : RdAt g (cut r i r.size) w) (hn : i + 1 ≤ r.size) (hr : r.size ≤ 1048576) (hc : numOf (cut r i (i + 1)).data.toList = 1) :
    Calls Tryd.prog 45 #[.pointer (some ⟨g, 0, none⟩)] w fun e w' => e = .returned (.bool true) ∧ RdAt g (cut r (i + 1) r.size) w' ∧ But g w w' := by
  have H1 := Lib.hid (number_at g r i 1 w h hn hr (by omega) (by omega))
  rw [hc] at H1
  clear hc hn hr h
  go_enter Tryd.func45, Tryd.ntmps45
  go_wp2_with fail
  refine H1.out.mono ?_
  rintro e w1 ⟨rfl, hR, hb⟩
  go_wp2_with fail
  refine (need_yes g _).mono ?_
  rintro e w2 ⟨rfl, rfl⟩
  go_wp2
  go_ret
  exact ⟨rfl, hR, hb⟩

set_option maxHeartbeats 2000000 in
theorem flag_bad (g : Nat) (r : ByteArray) (i : Nat) (w : World) (T : TypeId) (v : Value) (hE : TabE T v w) (hg0 : 0 ≠ g) (h : RdAt g (cut r i r.size) w) (hn : i + 1 ≤ r.size) (hr : r.size ≤ 1048576) (hc : 1 < numOf (cut r i (i + 1)).data.toList) :
    Calls Tryd.prog 45 #[.pointer (some ⟨g, 0, none⟩)] w fun e w' => e = panE T v ∧ But g w w' := by
  have H1 := Lib.hid (number_at g r i 1 w h hn hr (by omega) (by omega))
  generalize numOf (cut r i (i + 1)).data.toList = N at *
  have hd : decide ((N : Int) ≤ 1) = false := by simp; omega
  have hd2 : decide (N ≤ 1) = false := by simp; omega
  clear hn hr h hc
  go_enter Tryd.func45, Tryd.ntmps45
  go_wp2_with fail
  refine H1.out.mono ?_
  rintro e w1 ⟨rfl, hR, hb⟩
  have hE1 := TabE.but hb hg0 hE
  go_wp2_with fail
  refine (need_no g _ T v hE1).mono ?_
  rintro e w2 ⟨rfl, rfl⟩
  exact ⟨rfl, rfl, hb⟩

set_option maxHeartbeats 2000000 in
theorem flag_end (g : Nat) (r : ByteArray) (i : Nat) (w : World) (T : TypeId) (v : Value) (hE : TabE T v w) (h : RdAt g (cut r i r.size) w) (hn : r.size < i + 1) (hi : i ≤ r.size) :
    Calls Tryd.prog 45 #[.pointer (some ⟨g, 0, none⟩)] w fun e w' => e = panE T v ∧ But g w w' := by
  have H1 := Lib.hid (number_at_no g r i 1 w T v hE h hn hi (by omega))
  clear hn h hE
  go_enter Tryd.func45, Tryd.ntmps45
  go_wp2_with fail
  refine H1.out.mono ?_
  rintro e w1 ⟨rfl, rfl⟩
  exact ⟨rfl, rfl, But.refl g w⟩

theorem message_pan (g : Nat) (r : ByteArray) (w : World) (T : TypeId) (v : Value) (hE : TabE T v w) (h : RdAt g r w) (hg0 : 0 ≠ g) (hr : r.size ≤ 1048576) (n : Nat) (hn : numOf (cut r 36 38).data.toList = n)
    (hp : ¬ (38 + n ≤ r.size ∧ MsgP (cut r 0 32) (numOf (cut r 32 34).data.toList : Nat) (numOf (cut r 34 36).data.toList : Nat) (cut r 38 (38 + n)))) :
    Calls Tryd.prog 32 #[.pointer (some ⟨g, 0, none⟩)] w fun e w' => e = panE T v ∧ But g w w' := by
  by_cases h0 : r.size < 32
  · exact message_no0 g r w T v hE h hg0 hr h0
  by_cases h1 : r.size < 34
  · exact message_no1 g r w T v hE h hg0 hr ⟨by omega, h1⟩
  by_cases h2 : r.size < 36
  · exact message_no2 g r w T v hE h hg0 hr ⟨by omega, h2⟩
  by_cases h3 : r.size < 38
  · exact message_no3 g r w T v hE h hg0 hr ⟨by omega, h3⟩
  by_cases h4 : r.size < 38 + n
  · exact message_no4 g r w T v hE h hg0 hr n hn ⟨by omega, h4⟩
  exact message_no5 g r w T v hE h hg0 hr n hn (by omega) (fun c => hp ⟨by omega, c⟩)

abbrev zeroI : Array Value := #[.string ⟨#[]⟩, .string ⟨#[]⟩, .int .i64 0]

set_option maxHeartbeats 4000000 in
theorem initial_no0 (g : Nat) (r : ByteArray) (w : World) (T : TypeId) (v : Value) (hE : TabE T v w) (h : RdAt g (cut r 3 r.size) w) (hg0 : 0 ≠ g) (hr : r.size ≤ 1048576) (hl : 3 ≤ r.size ∧ r.size < 35) :
    Calls Tryd.prog 46 #[.pointer (some ⟨g, 0, none⟩)] w fun e w' => e = panE T v ∧ But g w w' := by
  have hgl := h.lt
  have hEl := hE.1
  have hk1 : w.heap.size ≠ g := by omega
  have hk2 : w.heap.size + 1 ≠ g := by omega
  have hk1' : g ≠ w.heap.size := by omega
  have hk2' : g ≠ w.heap.size + 1 := by omega
  have HS := Lib.hid hr
  clear hr
  have HL := Lib.hid hl
  clear hl
  go_enter Tryd.func46, Tryd.ntmps46
  go_wp2_with fail
  have e1 : (w.alloc (.cells zeroI 23)).heap.size = w.heap.size + 1 := by simp
  have hB : But g w ((w.alloc (.cells zeroI 23)).alloc (.cells zeroI 23)) := ((But.refl g w).alloc _).alloc _
  have hR := (h.past (.cells zeroI 23)).past (.cells zeroI 23)
  have hE0 : TabE T v ((w.alloc (.cells zeroI 23)).alloc (.cells zeroI 23)) := TabE.but hB hg0 hE
  have q0 : BlkAt w.heap.size zeroI 23 ((w.alloc (.cells zeroI 23)).alloc (.cells zeroI 23)) := (BlkAt.box _ _ _).past _
  have o0 : BlkAt (w.heap.size + 1) zeroI 23 ((w.alloc (.cells zeroI 23)).alloc (.cells zeroI 23)) := by rw [← e1]; exact BlkAt.box _ _ _
  clear e1
  refine (take_at_no g r 3 32 _ T v hE0 hR (by have := HL.out; omega) (by have := HL.out; omega) (by omega)).mono ?_
  rintro e w9 ⟨rfl, rfl⟩
  exact ⟨rfl, rfl, hB⟩

set_option maxHeartbeats 4000000 in
theorem initial_no1 (g : Nat) (r : ByteArray) (w : World) (T : TypeId) (v : Value) (hE : TabE T v w) (h : RdAt g (cut r 3 r.size) w) (hg0 : 0 ≠ g) (hr : r.size ≤ 1048576) (hl : 35 ≤ r.size ∧ r.size < 67) :
    Calls Tryd.prog 46 #[.pointer (some ⟨g, 0, none⟩)] w fun e w' => e = panE T v ∧ But g w w' := by
  have hgl := h.lt
  have hEl := hE.1
  have hk1 : w.heap.size ≠ g := by omega
  have hk2 : w.heap.size + 1 ≠ g := by omega
  have hk1' : g ≠ w.heap.size := by omega
  have hk2' : g ≠ w.heap.size + 1 := by omega
  have HS := Lib.hid hr
  clear hr
  have HL := Lib.hid hl
  clear hl
  go_enter Tryd.func46, Tryd.ntmps46
  go_wp2_with fail
  have e1 : (w.alloc (.cells zeroI 23)).heap.size = w.heap.size + 1 := by simp
  have hB : But g w ((w.alloc (.cells zeroI 23)).alloc (.cells zeroI 23)) := ((But.refl g w).alloc _).alloc _
  have hR := (h.past (.cells zeroI 23)).past (.cells zeroI 23)
  have hE0 : TabE T v ((w.alloc (.cells zeroI 23)).alloc (.cells zeroI 23)) := TabE.but hB hg0 hE
  have q0 : BlkAt w.heap.size zeroI 23 ((w.alloc (.cells zeroI 23)).alloc (.cells zeroI 23)) := (BlkAt.box _ _ _).past _
  have o0 : BlkAt (w.heap.size + 1) zeroI 23 ((w.alloc (.cells zeroI 23)).alloc (.cells zeroI 23)) := by rw [← e1]; exact BlkAt.box _ _ _
  clear e1
  refine (take_at g r 3 32 _ hR (by have := HL.out; omega) HS.out ).mono ?_
  rintro e w1 ⟨rfl, hR, hb⟩
  have hB := hB.trans hb
  have hE0 := TabE.but hb hg0 hE0
  have q0 := BlkAt.but hb hk1 q0
  have o0 := BlkAt.but hb hk2 o0
  clear hb
  have c0 := o0.cell (j := 0) rfl
  have f0 := o0.froz (j := 0)
  go_wp2_with fail
  clear c0 f0
  have hR := BlkAt.other hR 0 (.string (cut r 3 35)) hk2'
  have hB := But.setNew hB (w.heap.size + 1) 0 (.string (cut r 3 35)) (by omega)
  have hE0 : TabE T v _ := ⟨Nat.lt_of_lt_of_le hE0.1 (by simp), (World.cell?_of_block (w := w1) (a := ⟨0, 0, none⟩) (heap_setCell_other w1 ⟨w.heap.size + 1, 0, none⟩ _ (.string (cut r 3 35)) (by show (0 : Nat) ≠ w.heap.size + 1; have := hEl; omega))).trans hE0.2⟩
  have q0 := BlkAt.other q0 0 (.string (cut r 3 35)) (show w.heap.size ≠ w.heap.size + 1 by omega)
  have o0 : BlkAt (w.heap.size + 1) #[.string (cut r 3 35), .string ⟨#[]⟩, .int .i64 0] 23 _ := BlkAt.set o0 0 (.string (cut r 3 35))
  refine (take_at_no g r 35 32 _ T v hE0 hR (by have := HL.out; omega) (by have := HL.out; omega) (by omega)).mono ?_
  rintro e w9 ⟨rfl, rfl⟩
  exact ⟨rfl, rfl, hB⟩

set_option maxHeartbeats 4000000 in
theorem initial_no2 (g : Nat) (r : ByteArray) (w : World) (T : TypeId) (v : Value) (hE : TabE T v w) (h : RdAt g (cut r 3 r.size) w) (hg0 : 0 ≠ g) (hr : r.size ≤ 1048576) (hl : 67 ≤ r.size ∧ r.size < 69) :
    Calls Tryd.prog 46 #[.pointer (some ⟨g, 0, none⟩)] w fun e w' => e = panE T v ∧ But g w w' := by
  have hgl := h.lt
  have hEl := hE.1
  have hk1 : w.heap.size ≠ g := by omega
  have hk2 : w.heap.size + 1 ≠ g := by omega
  have hk1' : g ≠ w.heap.size := by omega
  have hk2' : g ≠ w.heap.size + 1 := by omega
  have HS := Lib.hid hr
  clear hr
  have HL := Lib.hid hl
  clear hl
  go_enter Tryd.func46, Tryd.ntmps46
  go_wp2_with fail
  have e1 : (w.alloc (.cells zeroI 23)).heap.size = w.heap.size + 1 := by simp
  have hB : But g w ((w.alloc (.cells zeroI 23)).alloc (.cells zeroI 23)) := ((But.refl g w).alloc _).alloc _
  have hR := (h.past (.cells zeroI 23)).past (.cells zeroI 23)
  have hE0 : TabE T v ((w.alloc (.cells zeroI 23)).alloc (.cells zeroI 23)) := TabE.but hB hg0 hE
  have q0 : BlkAt w.heap.size zeroI 23 ((w.alloc (.cells zeroI 23)).alloc (.cells zeroI 23)) := (BlkAt.box _ _ _).past _
  have o0 : BlkAt (w.heap.size + 1) zeroI 23 ((w.alloc (.cells zeroI 23)).alloc (.cells zeroI 23)) := by rw [← e1]; exact BlkAt.box _ _ _
  clear e1
  refine (take_at g r 3 32 _ hR (by have := HL.out; omega) HS.out ).mono ?_
  rintro e w1 ⟨rfl, hR, hb⟩
  have hB := hB.trans hb
  have hE0 := TabE.but hb hg0 hE0
  have q0 := BlkAt.but hb hk1 q0
  have o0 := BlkAt.but hb hk2 o0
  clear hb
  have c0 := o0.cell (j := 0) rfl
  have f0 := o0.froz (j := 0)
  go_wp2_with fail
  clear c0 f0
  have hR := BlkAt.other hR 0 (.string (cut r 3 35)) hk2'
  have hB := But.setNew hB (w.heap.size + 1) 0 (.string (cut r 3 35)) (by omega)
  have hE0 : TabE T v _ := ⟨Nat.lt_of_lt_of_le hE0.1 (by simp), (World.cell?_of_block (w := w1) (a := ⟨0, 0, none⟩) (heap_setCell_other w1 ⟨w.heap.size + 1, 0, none⟩ _ (.string (cut r 3 35)) (by show (0 : Nat) ≠ w.heap.size + 1; have := hEl; omega))).trans hE0.2⟩
  have q0 := BlkAt.other q0 0 (.string (cut r 3 35)) (show w.heap.size ≠ w.heap.size + 1 by omega)
  have o0 : BlkAt (w.heap.size + 1) #[.string (cut r 3 35), .string ⟨#[]⟩, .int .i64 0] 23 _ := BlkAt.set o0 0 (.string (cut r 3 35))
  refine (take_at g r 35 32 _ hR (by have := HL.out; omega) HS.out ).mono ?_
  rintro e w2 ⟨rfl, hR, hb⟩
  have hB := hB.trans hb
  have hE0 := TabE.but hb hg0 hE0
  have q0 := BlkAt.but hb hk1 q0
  have o0 := BlkAt.but hb hk2 o0
  clear hb
  have c1 := o0.cell (j := 1) rfl
  have f1 := o0.froz (j := 1)
  go_wp2_with fail
  clear c1 f1
  have hR := BlkAt.other hR 1 (.string (cut r 35 67)) hk2'
  have hB := But.setNew hB (w.heap.size + 1) 1 (.string (cut r 35 67)) (by omega)
  have hE0 : TabE T v _ := ⟨Nat.lt_of_lt_of_le hE0.1 (by simp), (World.cell?_of_block (w := w2) (a := ⟨0, 0, none⟩) (heap_setCell_other w2 ⟨w.heap.size + 1, 1, none⟩ _ (.string (cut r 35 67)) (by show (0 : Nat) ≠ w.heap.size + 1; have := hEl; omega))).trans hE0.2⟩
  have q0 := BlkAt.other q0 1 (.string (cut r 35 67)) (show w.heap.size ≠ w.heap.size + 1 by omega)
  have o0 : BlkAt (w.heap.size + 1) #[.string (cut r 3 35), .string (cut r 35 67), .int .i64 0] 23 _ := BlkAt.set o0 1 (.string (cut r 35 67))
  refine (number_at_no g r 67 2 _ T v hE0 hR (by have := HL.out; omega) (by have := HL.out; omega) (by omega)).mono ?_
  rintro e w9 ⟨rfl, rfl⟩
  exact ⟨rfl, rfl, hB⟩

set_option maxHeartbeats 4000000 in
theorem initial_yes (g : Nat) (r : ByteArray) (w : World) (T : TypeId) (v : Value) (hE : TabE T v w) (h : RdAt g (cut r 3 r.size) w) (hg0 : 0 ≠ g) (hr : r.size ≤ 1048576) (hl : 69 ≤ r.size) :
    Calls Tryd.prog 46 #[.pointer (some ⟨g, 0, none⟩)] w fun e w' => e = .returned (.agg (initA (cut r 3 35) (cut r 35 67) (numOf (cut r 67 69).data.toList : Nat))) ∧ RdAt g (cut r 69 r.size) w' ∧ But g w w' := by
  have hgl := h.lt
  have hEl := hE.1
  have hk1 : w.heap.size ≠ g := by omega
  have hk2 : w.heap.size + 1 ≠ g := by omega
  have hk1' : g ≠ w.heap.size := by omega
  have hk2' : g ≠ w.heap.size + 1 := by omega
  have HS := Lib.hid hr
  clear hr
  have HL := Lib.hid hl
  clear hl
  go_enter Tryd.func46, Tryd.ntmps46
  go_wp2_with fail
  have e1 : (w.alloc (.cells zeroI 23)).heap.size = w.heap.size + 1 := by simp
  have hB : But g w ((w.alloc (.cells zeroI 23)).alloc (.cells zeroI 23)) := ((But.refl g w).alloc _).alloc _
  have hR := (h.past (.cells zeroI 23)).past (.cells zeroI 23)
  have hE0 : TabE T v ((w.alloc (.cells zeroI 23)).alloc (.cells zeroI 23)) := TabE.but hB hg0 hE
  have q0 : BlkAt w.heap.size zeroI 23 ((w.alloc (.cells zeroI 23)).alloc (.cells zeroI 23)) := (BlkAt.box _ _ _).past _
  have o0 : BlkAt (w.heap.size + 1) zeroI 23 ((w.alloc (.cells zeroI 23)).alloc (.cells zeroI 23)) := by rw [← e1]; exact BlkAt.box _ _ _
  clear e1
  refine (take_at g r 3 32 _ hR (by have := HL.out; omega) HS.out ).mono ?_
  rintro e w1 ⟨rfl, hR, hb⟩
  have hB := hB.trans hb
  have hE0 := TabE.but hb hg0 hE0
  have q0 := BlkAt.but hb hk1 q0
  have o0 := BlkAt.but hb hk2 o0
  clear hb
  have c0 := o0.cell (j := 0) rfl
  have f0 := o0.froz (j := 0)
  go_wp2_with fail
  clear c0 f0
  have hR := BlkAt.other hR 0 (.string (cut r 3 35)) hk2'
  have hB := But.setNew hB (w.heap.size + 1) 0 (.string (cut r 3 35)) (by omega)
  have hE0 : TabE T v _ := ⟨Nat.lt_of_lt_of_le hE0.1 (by simp), (World.cell?_of_block (w := w1) (a := ⟨0, 0, none⟩) (heap_setCell_other w1 ⟨w.heap.size + 1, 0, none⟩ _ (.string (cut r 3 35)) (by show (0 : Nat) ≠ w.heap.size + 1; have := hEl; omega))).trans hE0.2⟩
  have q0 := BlkAt.other q0 0 (.string (cut r 3 35)) (show w.heap.size ≠ w.heap.size + 1 by omega)
  have o0 : BlkAt (w.heap.size + 1) #[.string (cut r 3 35), .string ⟨#[]⟩, .int .i64 0] 23 _ := BlkAt.set o0 0 (.string (cut r 3 35))
  refine (take_at g r 35 32 _ hR (by have := HL.out; omega) HS.out ).mono ?_
  rintro e w2 ⟨rfl, hR, hb⟩
  have hB := hB.trans hb
  have hE0 := TabE.but hb hg0 hE0
  have q0 := BlkAt.but hb hk1 q0
  have o0 := BlkAt.but hb hk2 o0
  clear hb
  have c1 := o0.cell (j := 1) rfl
  have f1 := o0.froz (j := 1)
  go_wp2_with fail
  clear c1 f1
  have hR := BlkAt.other hR 1 (.string (cut r 35 67)) hk2'
  have hB := But.setNew hB (w.heap.size + 1) 1 (.string (cut r 35 67)) (by omega)
  have hE0 : TabE T v _ := ⟨Nat.lt_of_lt_of_le hE0.1 (by simp), (World.cell?_of_block (w := w2) (a := ⟨0, 0, none⟩) (heap_setCell_other w2 ⟨w.heap.size + 1, 1, none⟩ _ (.string (cut r 35 67)) (by show (0 : Nat) ≠ w.heap.size + 1; have := hEl; omega))).trans hE0.2⟩
  have q0 := BlkAt.other q0 1 (.string (cut r 35 67)) (show w.heap.size ≠ w.heap.size + 1 by omega)
  have o0 : BlkAt (w.heap.size + 1) #[.string (cut r 3 35), .string (cut r 35 67), .int .i64 0] 23 _ := BlkAt.set o0 1 (.string (cut r 35 67))
  refine (number_at g r 67 2 _ hR (by have := HL.out; omega) HS.out (by omega) (by omega)).mono ?_
  rintro e w3 ⟨rfl, hR, hb⟩
  have hB := hB.trans hb
  have hE0 := TabE.but hb hg0 hE0
  have q0 := BlkAt.but hb hk1 q0
  have o0 := BlkAt.but hb hk2 o0
  clear hb
  have c2 := o0.cell (j := 2) rfl
  have f2 := o0.froz (j := 2)
  have c0 := o0.cell (j := 0) rfl
  have c1 := o0.cell (j := 1) rfl
  have d0 := q0.cell (j := 0) rfl
  have p0 := q0.froz (j := 0)
  have d1 := q0.cell (j := 1) rfl
  have p1 := q0.froz (j := 1)
  have d2 := q0.cell (j := 2) rfl
  have p2 := q0.froz (j := 2)
  go_wp2
  refine bodyPost_ret (v := .agg (initA (cut r 3 35) (cut r 35 67) (numOf (cut r 67 69).data.toList : Nat))) (by simp [results, Tryd.results46, go_sem, *]) rfl ⟨rfl, ?_, ?_⟩
  · exact (((hR.other 2 _ hk2').other 0 _ hk1').other 1 _ hk1').other 2 _ hk1'
  · exact ((((hB.setNew _ 2 _ (by omega)).setNew _ 0 _ (Nat.le_refl _)).setNew _ 1 _ (Nat.le_refl _)).setNew _ 2 _ (Nat.le_refl _))

theorem initial_pan (g : Nat) (r : ByteArray) (w : World) (T : TypeId) (v : Value) (hE : TabE T v w) (h : RdAt g (cut r 3 r.size) w) (hg0 : 0 ≠ g) (hr : r.size ≤ 1048576) (h3 : 3 ≤ r.size) (hl : r.size < 69) :
    Calls Tryd.prog 46 #[.pointer (some ⟨g, 0, none⟩)] w fun e w' => e = panE T v ∧ But g w w' := by
  by_cases h0 : r.size < 35
  · exact initial_no0 g r w T v hE h hg0 hr ⟨h3, h0⟩
  by_cases h1 : r.size < 67
  · exact initial_no1 g r w T v hE h hg0 hr ⟨by omega, h1⟩
  exact initial_no2 g r w T v hE h hg0 hr ⟨by omega, hl⟩

end Go.Proofs.YtmolcpojdojmlaaDoor
