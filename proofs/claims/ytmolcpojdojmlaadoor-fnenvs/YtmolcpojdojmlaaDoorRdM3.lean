/- The deferred recover, and the reading of a whole message. -/
import Derived.Test.YtmolcpojdojmlaaDoorRdM2
import Derived.Defers
import Derived.Recover
import Derived.Laws.Pointers
namespace Go.Proofs.YtmolcpojdojmlaaDoor
open Go.RowKit Go.My Go.Lib
set_option linter.unusedVariables false

theorem isE' (a : ByteArray) : a.toList.isEmpty = decide (a.size = 0) := by
  rw [ByteArray.toList_eq, ← len_data]
  cases a.data.toList <;> simp
theorem TabE.below' {B : Nat} {T : TypeId} {v : Value} {V W : World} (hb : Below B V W) (hl : 0 < B) (h : TabE T v V) : TabE T v W :=
  ⟨Nat.lt_of_lt_of_le h.1 hb.size, (hb.cell (p := ⟨0, 0, none⟩) hl).trans h.2⟩

set_option maxHeartbeats 2000000 in
theorem catchM_p (kv ko : Nat) (x0 x1 x2 x3 b : Value) (T : TypeId) (v : Value) (older : List PanicEntry) (w : World) (hv : BlkAt kv #[x0, x1, x2, x3] 27 w) (ho : BlkAt ko #[b] 4 w) (hko : kv ≠ ko) :
    CallsD Tryd.prog 53 #[.pointer (some ⟨kv, 0, none⟩), .pointer (some ⟨ko, 0, none⟩)] (.panicking ({ v := .iface T v, recovered := false } :: older)) w fun e u' w' =>
      e = .returned (.tuple #[]) ∧ u' = .panicking ({ v := .iface T v, recovered := true } :: older) ∧ BlkAt kv zeroM 27 w' ∧ BlkAt ko #[.bool false] 4 w' ∧ ∀ B, B ≤ w.heap.size → B ≤ kv → B ≤ ko → Below B w w' := by
  have hv1 := hv.past (.cells zeroM 27)
  have ho1 := ho.past (.cells zeroM 27)
  have hl := hv.lt
  have hl2 := ho.lt
  have c0 := hv.cell (j := 0) rfl
  have c1 := hv.cell (j := 1) rfl
  have c2 := hv.cell (j := 2) rfl
  have c3 := hv.cell (j := 3) rfl
  have f0 := hv.froz (j := 0)
  have f1 := hv.froz (j := 1)
  have f2 := hv.froz (j := 2)
  have f3 := hv.froz (j := 3)
  have d0 := ho.cell (j := 0) rfl
  have g0 := ho.froz (j := 0)
  refine callsD_of_wpS Tryd.func53 rfl fun c₀ cs hu => ?_
  apply wpS_seq
  apply wpS_region
  simp only [Tryd.ntmps53]
  simp [wpOpsS, go_sem, recoverD, hu, Exit.thenS]
  refine wpS_cond (t := true) (by simp [Act.eval, Array.replicate]) ?_
  simp only [if_true]
  refine wpS_of_wp ?_
  simp only [Array.replicate_succ, Array.replicate_zero, List.push_toArray, List.append_toArray, List.nil_append, List.cons_append, List.setIfInBounds_toArray, List.set_cons_zero, List.set_cons_succ]
  go_wp2
  refine ⟨rfl, _, rfl, .tuple #[], by simp [results, Tryd.results53], rfl, rfl, ?_, ?_, ?_⟩
  · exact (((((hv.set 0 _).set 1 _).set 2 _).set 3 _).other 0 _ hko).past _
  · exact ((((((ho.other 0 _ hko.symm).other 1 _ hko.symm).other 2 _ hko.symm).other 3 _ hko.symm).set 0 _)).past _
  · intro B h1 h2 h3
    exact Below.alloc (Below.setCell (Below.setCell (Below.setCell (Below.setCell (Below.setCell (Below.refl B w) (p := ⟨kv, 0, none⟩) h2 _) (p := ⟨kv, 1, none⟩) h2 _) (p := ⟨kv, 2, none⟩) h2 _) (p := ⟨kv, 3, none⟩) h2 _) (p := ⟨ko, 0, none⟩) h3 _) (by simpa using h1) _

theorem catchM_i (kv ko : Nat) (w : World) :
    CallsD Tryd.prog 53 #[.pointer (some ⟨kv, 0, none⟩), .pointer (some ⟨ko, 0, none⟩)] .returning w fun e u' w' => e = .returned (.tuple #[]) ∧ u' = .returning ∧ w' = w := by
  refine callsD_of_wpS Tryd.func53 rfl fun c₀ cs hu => ?_
  apply wpS_seq
  apply wpS_region
  simp [wpOpsS, go_sem, recoverD, hu, Tryd.ntmps53, Exit.thenS]
  refine wpS_cond (t := false) (by simp [Act.eval, Array.replicate]) ?_
  simp only [Bool.false_eq_true, if_false]
  refine wpS_of_wp (wp_skip ?_)
  cases c₀
  simp_all [bodyPostS, results, Tryd.results53]

set_option maxHeartbeats 4000000 in
theorem wholeM_no (s : ByteArray) (w : World) (T : TypeId) (v : Value) (hE : TabE T v w)
    (hm : ∀ w1 : World, RdAt (w.heap.size + 1 + 1) s w1 → TabE T v w1 → Calls Tryd.prog 32 #[.pointer (some ⟨w.heap.size + 1 + 1, 0, none⟩)] w1 fun e w' => e = panE T v ∧ But (w.heap.size + 1 + 1) w1 w') :
    Calls Tryd.prog 31 #[.string s, .func (.func 32) #[] #[]] w fun e w' => e = .returned (.tuple #[.agg zeroM, .bool false]) ∧ Below w.heap.size w w' := by
  have hmf : ∀ (fn : Fn) (first cap : Array Value) (w : World), (Instr.makeFunc fn first cap).run Tryd.prog w = .ok (.func fn first cap) w := fun _ _ _ _ => rfl
  have HM := Lib.hid hm
  clear hm
  have e1 : (w.alloc (.cells zeroM 27)).heap.size = w.heap.size + 1 := by simp
  have e2 : ((w.alloc (.cells zeroM 27)).alloc (.cells #[.bool false] 4)).heap.size = w.heap.size + 1 + 1 := by simp
  have v0 : BlkAt w.heap.size zeroM 27 (((w.alloc (.cells zeroM 27)).alloc (.cells #[.bool false] 4)).alloc (.cells #[.string s] 64)) := ((BlkAt.box _ _ _).past _).past _
  have o0 : BlkAt (w.heap.size + 1) #[.bool false] 4 (((w.alloc (.cells zeroM 27)).alloc (.cells #[.bool false] 4)).alloc (.cells #[.string s] 64)) := BlkAt.past (by rw [← e1]; exact BlkAt.box _ _ _) _
  have hR : RdAt (w.heap.size + 1 + 1) s (((w.alloc (.cells zeroM 27)).alloc (.cells #[.bool false] 4)).alloc (.cells #[.string s] 64)) := by rw [← e2]; exact BlkAt.box _ _ _
  have hB : Below w.heap.size w (((w.alloc (.cells zeroM 27)).alloc (.cells #[.bool false] 4)).alloc (.cells #[.string s] 64)) := ((below_box w _).alloc (by simp) _).alloc (by simp; omega) _
  have hE0 := TabE.below (((below_box w (.cells zeroM 27)).alloc (by simp) (.cells #[.bool false] 4)).alloc (by simp; omega) (.cells #[.string s] 64)) hE
  clear e1 e2
  go_enter_defers Tryd.func31, Tryd.ntmps31
  go_wp2_with fail
  refine (HM.out _ hR hE0).mono ?_
  rintro e w1 ⟨rfl, hb⟩
  have v0 := BlkAt.but hb (by omega) v0
  have o0 := BlkAt.but hb (by omega) o0
  have hB := hB.trans (hb.below w.heap.size hB.size (by omega))
  refine leaves_cons (f := 53) (args := #[.pointer (some ⟨w.heap.size, 0, none⟩), .pointer (some ⟨w.heap.size + 1, 0, none⟩)]) (by simp) (by simp [go_sem]) ?_
  refine (catchM_p w.heap.size (w.heap.size + 1) _ _ _ _ _ T v [] _ v0 o0 (by omega)).mono ?_
  rintro e u' w2 ⟨rfl, rfl, hv2, ho2, hbel⟩
  have c0 := hv2.cell (j := 0) rfl
  have c1 := hv2.cell (j := 1) rfl
  have c2 := hv2.cell (j := 2) rfl
  have c3 := hv2.cell (j := 3) rfl
  have d0 := ho2.cell (j := 0) rfl
  simp only [settle]
  refine ⟨.tuple #[.agg zeroM, .bool false], by simp [results, Tryd.results31, go_sem, *], rfl, ?_⟩
  exact hB.trans (hbel w.heap.size hB.size (Nat.le_refl _) (by omega))

set_option maxHeartbeats 4000000 in
theorem wholeM_left (s : ByteArray) (w : World) (T : TypeId) (v : Value) (hE : TabE T v w) (p x r : ByteArray) (a b : Int) (hr : 0 < r.size)
    (hm : ∀ w1 : World, RdAt (w.heap.size + 1 + 1) s w1 → TabE T v w1 → Calls Tryd.prog 32 #[.pointer (some ⟨w.heap.size + 1 + 1, 0, none⟩)] w1 fun e w' => e = .returned (.agg (msgA p a b x)) ∧ RdAt (w.heap.size + 1 + 1) r w' ∧ But (w.heap.size + 1 + 1) w1 w') :
    Calls Tryd.prog 31 #[.string s, .func (.func 32) #[] #[]] w fun e w' => e = .returned (.tuple #[.agg zeroM, .bool false]) ∧ Below w.heap.size w w' := by
  have hmf : ∀ (fn : Fn) (first cap : Array Value) (w : World), (Instr.makeFunc fn first cap).run Tryd.prog w = .ok (.func fn first cap) w := fun _ _ _ _ => rfl
  have HM := Lib.hid hm
  clear hm
  have e1 : (w.alloc (.cells zeroM 27)).heap.size = w.heap.size + 1 := by simp
  have e2 : ((w.alloc (.cells zeroM 27)).alloc (.cells #[.bool false] 4)).heap.size = w.heap.size + 1 + 1 := by simp
  have v0 : BlkAt w.heap.size zeroM 27 (((w.alloc (.cells zeroM 27)).alloc (.cells #[.bool false] 4)).alloc (.cells #[.string s] 64)) := ((BlkAt.box _ _ _).past _).past _
  have o0 : BlkAt (w.heap.size + 1) #[.bool false] 4 (((w.alloc (.cells zeroM 27)).alloc (.cells #[.bool false] 4)).alloc (.cells #[.string s] 64)) := BlkAt.past (by rw [← e1]; exact BlkAt.box _ _ _) _
  have hR : RdAt (w.heap.size + 1 + 1) s (((w.alloc (.cells zeroM 27)).alloc (.cells #[.bool false] 4)).alloc (.cells #[.string s] 64)) := by rw [← e2]; exact BlkAt.box _ _ _
  have hB : Below w.heap.size w (((w.alloc (.cells zeroM 27)).alloc (.cells #[.bool false] 4)).alloc (.cells #[.string s] 64)) := ((below_box w _).alloc (by simp) _).alloc (by simp; omega) _
  have hE0 := TabE.below (((below_box w (.cells zeroM 27)).alloc (by simp) (.cells #[.bool false] 4)).alloc (by simp; omega) (.cells #[.string s] 64)) hE
  clear e1 e2
  go_enter_defers Tryd.func31, Tryd.ntmps31
  go_wp2_with fail
  refine (HM.out _ hR hE0).mono ?_
  rintro e w1 ⟨rfl, hR1, hb⟩
  have v0 := BlkAt.but hb (by omega) v0
  have o0 := BlkAt.but hb (by omega) o0
  have hB := hB.trans (hb.below w.heap.size hB.size (by omega))
  have hE0 := TabE.but hb (by have := hE.1; omega) hE0
  have c0 := v0.cell (j := 0) rfl
  have c1 := v0.cell (j := 1) rfl
  have c2 := v0.cell (j := 2) rfl
  have c3 := v0.cell (j := 3) rfl
  have f0 := v0.froz (j := 0)
  have f1 := v0.froz (j := 1)
  have f2 := v0.froz (j := 2)
  have f3 := v0.froz (j := 3)
  have rc := hR1.cell (j := 0) rfl
  have he : r.toList.isEmpty = false := by rw [isE', decide_eq_false (by omega)]
  have he2 : ¬ r.toList = [] := fun e => by rw [e] at he; cases he
  clear hb hR
  go_wp2_with fail
  clear c0 c1 c2 c3 f0 f1 f2 f3
  have v0 : BlkAt w.heap.size (msgA p a b x) 27 _ := (((v0.set 0 (.string p)).set 1 (.int .i64 a)).set 2 (.int .i64 b)).set 3 (.string x)
  have o0 := (((o0.other 0 (.string p) (show w.heap.size + 1 ≠ w.heap.size by omega)).other 1 (.int .i64 a) (show w.heap.size + 1 ≠ w.heap.size by omega)).other 2 (.int .i64 b) (show w.heap.size + 1 ≠ w.heap.size by omega)).other 3 (.string x) (show w.heap.size + 1 ≠ w.heap.size by omega)
  have hB := (((hB.setCell (p := ⟨w.heap.size, 0, none⟩) (Nat.le_refl _) (.string p)).setCell (p := ⟨w.heap.size, 1, none⟩) (Nat.le_refl _) (.int .i64 a)).setCell (p := ⟨w.heap.size, 2, none⟩) (Nat.le_refl _) (.int .i64 b)).setCell (p := ⟨w.heap.size, 3, none⟩) (Nat.le_refl _) (.string x)
  have hE0 := TabE.below' (Below.setCell (Below.setCell (Below.setCell (Below.setCell (Below.refl w.heap.size w1) (p := ⟨w.heap.size, 0, none⟩) (Nat.le_refl _) (.string p)) (p := ⟨w.heap.size, 1, none⟩) (Nat.le_refl _) (.int .i64 a)) (p := ⟨w.heap.size, 2, none⟩) (Nat.le_refl _) (.int .i64 b)) (p := ⟨w.heap.size, 3, none⟩) (Nat.le_refl _) (.string x)) hE.1 hE0
  refine (need_no (w.heap.size + 1 + 1) _ T v hE0).mono ?_
  rintro e w9 ⟨rfl, rfl⟩
  refine leaves_cons (f := 53) (args := #[.pointer (some ⟨w.heap.size, 0, none⟩), .pointer (some ⟨w.heap.size + 1, 0, none⟩)]) (by simp) (by simp [go_sem]) ?_
  refine (catchM_p w.heap.size (w.heap.size + 1) _ _ _ _ _ T v [] _ v0 o0 (by omega)).mono ?_
  rintro e u' w2 ⟨rfl, rfl, hv2, ho2, hbel⟩
  have c0 := hv2.cell (j := 0) rfl
  have c1 := hv2.cell (j := 1) rfl
  have c2 := hv2.cell (j := 2) rfl
  have c3 := hv2.cell (j := 3) rfl
  have d0 := ho2.cell (j := 0) rfl
  simp only [settle]
  refine ⟨.tuple #[.agg zeroM, .bool false], by simp [results, Tryd.results31, go_sem, *], rfl, ?_⟩
  exact hB.trans (hbel w.heap.size hB.size (Nat.le_refl _) (by omega))

set_option maxHeartbeats 4000000 in
theorem wholeM_yes (s : ByteArray) (w : World) (T : TypeId) (v : Value) (hE : TabE T v w) (p x r : ByteArray) (a b : Int) (hr : r.size = 0)
    (hm : ∀ w1 : World, RdAt (w.heap.size + 1 + 1) s w1 → TabE T v w1 → Calls Tryd.prog 32 #[.pointer (some ⟨w.heap.size + 1 + 1, 0, none⟩)] w1 fun e w' => e = .returned (.agg (msgA p a b x)) ∧ RdAt (w.heap.size + 1 + 1) r w' ∧ But (w.heap.size + 1 + 1) w1 w') :
    Calls Tryd.prog 31 #[.string s, .func (.func 32) #[] #[]] w fun e w' => e = .returned (.tuple #[.agg (msgA p a b x), .bool true]) ∧ Below w.heap.size w w' := by
  have hmf : ∀ (fn : Fn) (first cap : Array Value) (w : World), (Instr.makeFunc fn first cap).run Tryd.prog w = .ok (.func fn first cap) w := fun _ _ _ _ => rfl
  have HM := Lib.hid hm
  clear hm
  have e1 : (w.alloc (.cells zeroM 27)).heap.size = w.heap.size + 1 := by simp
  have e2 : ((w.alloc (.cells zeroM 27)).alloc (.cells #[.bool false] 4)).heap.size = w.heap.size + 1 + 1 := by simp
  have v0 : BlkAt w.heap.size zeroM 27 (((w.alloc (.cells zeroM 27)).alloc (.cells #[.bool false] 4)).alloc (.cells #[.string s] 64)) := ((BlkAt.box _ _ _).past _).past _
  have o0 : BlkAt (w.heap.size + 1) #[.bool false] 4 (((w.alloc (.cells zeroM 27)).alloc (.cells #[.bool false] 4)).alloc (.cells #[.string s] 64)) := BlkAt.past (by rw [← e1]; exact BlkAt.box _ _ _) _
  have hR : RdAt (w.heap.size + 1 + 1) s (((w.alloc (.cells zeroM 27)).alloc (.cells #[.bool false] 4)).alloc (.cells #[.string s] 64)) := by rw [← e2]; exact BlkAt.box _ _ _
  have hB : Below w.heap.size w (((w.alloc (.cells zeroM 27)).alloc (.cells #[.bool false] 4)).alloc (.cells #[.string s] 64)) := ((below_box w _).alloc (by simp) _).alloc (by simp; omega) _
  have hE0 := TabE.below (((below_box w (.cells zeroM 27)).alloc (by simp) (.cells #[.bool false] 4)).alloc (by simp; omega) (.cells #[.string s] 64)) hE
  clear e1 e2
  go_enter_defers Tryd.func31, Tryd.ntmps31
  go_wp2_with fail
  refine (HM.out _ hR hE0).mono ?_
  rintro e w1 ⟨rfl, hR1, hb⟩
  have v0 := BlkAt.but hb (by omega) v0
  have o0 := BlkAt.but hb (by omega) o0
  have hB := hB.trans (hb.below w.heap.size hB.size (by omega))
  have c0 := v0.cell (j := 0) rfl
  have c1 := v0.cell (j := 1) rfl
  have c2 := v0.cell (j := 2) rfl
  have c3 := v0.cell (j := 3) rfl
  have f0 := v0.froz (j := 0)
  have f1 := v0.froz (j := 1)
  have f2 := v0.froz (j := 2)
  have f3 := v0.froz (j := 3)
  have d0 := o0.cell (j := 0) rfl
  have g0 := o0.froz (j := 0)
  have rc := hR1.cell (j := 0) rfl
  have he : r.toList.isEmpty = true := by rw [isE', decide_eq_true hr]
  have he2 : r.toList = [] := by cases h : r.toList with
    | nil => rfl
    | cons a l => rw [h] at he; cases he
  clear hb hR
  go_wp2_with fail
  refine (need_yes (w.heap.size + 1 + 1) _).mono ?_
  rintro e w9 ⟨rfl, rfl⟩
  go_wp2
  refine leaves_cons (f := 53) (args := #[.pointer (some ⟨w.heap.size, 0, none⟩), .pointer (some ⟨w.heap.size + 1, 0, none⟩)]) (by simp) (by simp [go_sem]) ?_
  refine (catchM_i w.heap.size (w.heap.size + 1) _).mono ?_
  rintro e u' w2 ⟨rfl, rfl, rfl⟩
  have hv2 : BlkAt w.heap.size (msgA p a b x) 27 _ := ((((((((v0.set 0 (.string p)).set 1 (.int .i64 a)).set 2 (.int .i64 b)).set 3 (.string x)).set 0 (.string p)).set 1 (.int .i64 a)).set 2 (.int .i64 b)).set 3 (.string x)).other (l := w.heap.size + 1) 0 (.bool true) (by omega)
  have hne : w.heap.size + 1 ≠ w.heap.size := by omega
  have ho2 : BlkAt (w.heap.size + 1) #[.bool true] 4 _ := ((((((((o0.other 0 (.string p) hne).other 1 (.int .i64 a) hne).other 2 (.int .i64 b) hne).other 3 (.string x) hne).other 0 (.string p) hne).other 1 (.int .i64 a) hne).other 2 (.int .i64 b) hne).other 3 (.string x) hne).set 0 (.bool true)
  clear c0 c1 c2 c3 f0 f1 f2 f3 d0 g0 rc v0 o0
  have c0 := hv2.cell (j := 0) rfl
  have c1 := hv2.cell (j := 1) rfl
  have c2 := hv2.cell (j := 2) rfl
  have c3 := hv2.cell (j := 3) rfl
  have d0 := ho2.cell (j := 0) rfl
  simp only [settle, Leaves]
  have hB2 : Below w.heap.size w _ := ((((((((hB.setCell (p := ⟨w.heap.size, 0, none⟩) (Nat.le_refl _) (.string p)).setCell (p := ⟨w.heap.size, 1, none⟩) (Nat.le_refl _) (.int .i64 a)).setCell (p := ⟨w.heap.size, 2, none⟩) (Nat.le_refl _) (.int .i64 b)).setCell (p := ⟨w.heap.size, 3, none⟩) (Nat.le_refl _) (.string x)).setCell (p := ⟨w.heap.size, 0, none⟩) (Nat.le_refl _) (.string p)).setCell (p := ⟨w.heap.size, 1, none⟩) (Nat.le_refl _) (.int .i64 a)).setCell (p := ⟨w.heap.size, 2, none⟩) (Nat.le_refl _) (.int .i64 b)).setCell (p := ⟨w.heap.size, 3, none⟩) (Nat.le_refl _) (.string x)).setCell (p := ⟨w.heap.size + 1, 0, none⟩) (by simp) (.bool true)
  generalize World.setCell _ ⟨w.heap.size + 1, 0, none⟩ (.bool true) = w9 at *
  refine ⟨.tuple #[.agg (msgA p a b x), .bool true], by simp [results, Tryd.results31, go_sem, *], rfl, ?_⟩
  exact hB2

/-! ### ReadMsg -/
def RdMP (s : ByteArray) : Prop := 38 ≤ s.size ∧ numOf (cut s 36 38).data.toList = s.size - 38 ∧ MsgP (cut s 0 32) (numOf (cut s 32 34).data.toList : Nat) (numOf (cut s 34 36).data.toList : Nat) (cut s 38 s.size)
instance (s : ByteArray) : Decidable (RdMP s) := inferInstanceAs (Decidable (_ ∧ _))
def rdMA (s : ByteArray) : Array Value := if RdMP s then msgA (cut s 0 32) (numOf (cut s 32 34).data.toList : Nat) (numOf (cut s 34 36).data.toList : Nat) (cut s 38 s.size) else zeroM
theorem rdMA_yes {s : ByteArray} (h : RdMP s) : rdMA s = msgA (cut s 0 32) (numOf (cut s 32 34).data.toList : Nat) (numOf (cut s 34 36).data.toList : Nat) (cut s 38 s.size) := if_pos h
theorem rdMA_no {s : ByteArray} (h : ¬ RdMP s) : rdMA s = zeroM := if_neg h

theorem wholeM_any (s : ByteArray) (w : World) (T : TypeId) (v : Value) (hE : TabE T v w) (hs : s.size ≤ 1048576) :
    Calls Tryd.prog 31 #[.string s, .func (.func 32) #[] #[]] w fun e w' => e = .returned (.tuple #[.agg (rdMA s), .bool (decide (RdMP s))]) ∧ Below w.heap.size w w' := by
  have hg0 : 0 ≠ w.heap.size + 1 + 1 := by have := hE.1; omega
  have key : ¬ RdMP s → (∀ w1 : World, RdAt (w.heap.size + 1 + 1) s w1 → TabE T v w1 → Calls Tryd.prog 32 #[.pointer (some ⟨w.heap.size + 1 + 1, 0, none⟩)] w1 fun e w' => e = panE T v ∧ But (w.heap.size + 1 + 1) w1 w') → Calls Tryd.prog 31 #[.string s, .func (.func 32) #[] #[]] w fun e w' => e = .returned (.tuple #[.agg (rdMA s), .bool (decide (RdMP s))]) ∧ Below w.heap.size w w' := fun hn hm => by
    rw [rdMA_no hn, decide_eq_false hn]
    exact wholeM_no s w T v hE hm
  by_cases h0 : s.size < 32
  · exact key (fun c => by have := c.1; omega) (fun w1 hR h1 => message_no0 _ s w1 T v h1 hR hg0 hs h0)
  by_cases h1 : s.size < 34
  · exact key (fun c => by have := c.1; omega) (fun w1 hR hh => message_no1 _ s w1 T v hh hR hg0 hs ⟨by omega, h1⟩)
  by_cases h2 : s.size < 36
  · exact key (fun c => by have := c.1; omega) (fun w1 hR hh => message_no2 _ s w1 T v hh hR hg0 hs ⟨by omega, h2⟩)
  by_cases h3 : s.size < 38
  · exact key (fun c => by have := c.1; omega) (fun w1 hR hh => message_no3 _ s w1 T v hh hR hg0 hs ⟨by omega, h3⟩)
  obtain ⟨n, hn⟩ : ∃ n, numOf (cut s 36 38).data.toList = n := ⟨_, rfl⟩
  by_cases h4 : s.size < 38 + n
  · exact key (fun c => by have := c.2.1; omega) (fun w1 hR hh => message_no4 _ s w1 T v hh hR hg0 hs n hn ⟨by omega, h4⟩)
  by_cases h5 : MsgP (cut s 0 32) (numOf (cut s 32 34).data.toList : Nat) (numOf (cut s 34 36).data.toList : Nat) (cut s 38 (38 + n))
  case neg =>
    exact key (fun c => h5 (by have := c.2.1; rw [show 38 + n = s.size by omega]; exact c.2.2)) (fun w1 hR hh => message_no5 _ s w1 T v hh hR hg0 hs n hn (by omega) h5)
  by_cases h6 : 38 + n = s.size
  · have hy : RdMP s := ⟨by omega, by omega, by rw [← h6]; exact h5⟩
    rw [rdMA_yes hy, decide_eq_true hy]
    have := wholeM_yes s w T v hE (cut s 0 32) (cut s 38 (38 + n)) (cut s (38 + n) s.size) (numOf (cut s 32 34).data.toList : Nat) (numOf (cut s 34 36).data.toList : Nat) (by rw [cut_size _ _ _ (Nat.le_refl _)]; omega) (fun w1 hR hh => message_yes _ s w1 T v hh hR hg0 hs n hn (by omega) h5)
    rw [h6] at this
    exact this
  · have hn' : ¬ RdMP s := fun c => by have := c.2.1; omega
    rw [rdMA_no hn', decide_eq_false hn']
    exact wholeM_left s w T v hE (cut s 0 32) (cut s 38 (38 + n)) (cut s (38 + n) s.size) (numOf (cut s 32 34).data.toList : Nat) (numOf (cut s 34 36).data.toList : Nat) (by rw [cut_size _ _ _ (Nat.le_refl _)]; omega) (fun w1 hR hh => message_yes _ s w1 T v hh hR hg0 hs n hn (by omega) h5)

theorem rdMA_four (s : ByteArray) : ∃ p a b x, rdMA s = msgA p a b x := by
  by_cases h : RdMP s
  · exact ⟨_, _, _, _, rdMA_yes h⟩
  · exact ⟨_, _, _, _, rdMA_no h⟩

set_option maxHeartbeats 2000000 in
theorem readMsg_i (s : ByteArray) (w : World) (T : TypeId) (v : Value) (hE : TabE T v w) (hs : s.size ≤ 1048576) :
    Calls Tryd.prog 13 #[.string s] w fun e w' => e = .returned (.tuple #[.agg (rdMA s), .bool (decide (RdMP s))]) ∧ Below w.heap.size w w' := by
  have hb0 := below_box w (.cells zeroM 27)
  have q0 := BlkAt.box w zeroM 27
  have HW := Lib.hid (wholeM_any s _ T v (TabE.below hb0 hE) hs)
  obtain ⟨p, a, b, x, hx⟩ := rdMA_four s
  rw [hx] at HW ⊢
  generalize decide (RdMP s) = R at *
  clear hx hs
  go_enter Tryd.func13, Tryd.ntmps13
  go_wp2_with fail
  refine HW.out.mono ?_
  rintro e w1 ⟨rfl, hb1⟩
  have q0 := BlkAt.below hb1 q0
  have c0 := q0.cell (j := 0) rfl
  have c1 := q0.cell (j := 1) rfl
  have c2 := q0.cell (j := 2) rfl
  have c3 := q0.cell (j := 3) rfl
  have f0 := q0.froz (j := 0)
  have f1 := q0.froz (j := 1)
  have f2 := q0.froz (j := 2)
  have f3 := q0.froz (j := 3)
  have hB := hb0.trans (hb1.mono hb0.size)
  clear hb1 hb0
  go_wp2
  refine bodyPost_ret (v := .tuple #[.agg (msgA p a b x), .bool R]) (by simp [results, Tryd.results13, go_sem, *]) rfl ⟨rfl, ?_⟩
  repeat (refine Below.setCell ?_ (p := ⟨_, _, none⟩) (by first | (simp; done) | (simp; omega)) _)
  exact hB

end Go.Proofs.YtmolcpojdojmlaaDoor
