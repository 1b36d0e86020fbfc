/- The specification's ReadMsg. -/
import Derived.Test.YtmolcpojdojmlaaDoorRdM3
import Derived.StillTailTactics
namespace Go.Proofs.YtmolcpojdojmlaaDoor
open Go.RowKit Go.My Go.Lib
set_option linter.unusedVariables false

theorem neq_list {a b : ByteArray} (h : a ≠ b) : (a.toList == b.toList) = false := by
  refine beq_eq_false_iff_ne.2 (fun e => h ?_)
  rw [ByteArray.toList_eq, ByteArray.toList_eq] at e
  rw [← str_of a, ← str_of b, e]
theorem nb_cut (s : ByteArray) (i : Nat) (h : i + 2 ≤ s.size) : nb (numOf (cut s i (i + 2)).data.toList : Nat) 2 = cut s i (i + 2) := by
  have hz := cut_size s i (i + 2) h
  have h2 : (cut s i (i + 2)).size = 2 := by omega
  have := numB_numOf (cut s i (i + 2)) (by omega) (by omega)
  rw [h2] at this
  exact this
theorem cut_cat (s : ByteArray) {i j k : Nat} (h1 : i ≤ j) (h2 : j ≤ k) : cut s i j ++ cut s j k = cut s i k := by
  unfold cut
  rw [ByteArray.extract_append_extract, Nat.min_eq_left h1, Nat.max_eq_right h2]
theorem headB_cut (s : ByteArray) (h : 36 ≤ s.size) : headB (cut s 0 32) (numOf (cut s 32 34).data.toList : Nat) (numOf (cut s 34 36).data.toList : Nat) = cut s 0 36 := by
  unfold headB
  rw [nb_cut s 32 (by omega), nb_cut s 34 (by omega), cut_cat s (by omega) (by omega), cut_cat s (by omega) (by omega)]
theorem nb_inj {n m : Nat} (hn : n < 65536) (hm : m < 65536) (h : nb (n : Int) 2 = nb (m : Int) 2) : n = m := by
  unfold nb at h
  have h1 := congrArg (fun x : ByteArray => numOf x.data.toList) h
  simp only [str_list] at h1
  rw [numB_yes ⟨by omega, by omega, by omega, by simp; omega⟩, numB_yes ⟨by omega, by omega, by omega, by simp; omega⟩] at h1
  simp only [Int.toNat_natCast] at h1
  have e2 : (2 : Int).toNat = 2 := rfl
  rw [e2, numOf_beL, numOf_beL] at h1
  omega
theorem msgB_cut (s : ByteArray) (h : 38 ≤ s.size) (hx : (cut s 38 s.size).size ≤ 432) :
    msgB (cut s 0 32) (numOf (cut s 32 34).data.toList : Nat) (numOf (cut s 34 36).data.toList : Nat) (cut s 38 s.size) = s ↔ numOf (cut s 36 38).data.toList = s.size - 38 := by
  have hz := cut_size s 38 s.size (Nat.le_refl _)
  have hall : cut s 0 36 ++ cut s 36 38 ++ cut s 38 s.size = s := by rw [cut_cat s (by omega) (by omega), cut_cat s (by omega) h, cut_all]
  unfold msgB
  rw [headB_cut s (by omega), hz]
  constructor
  · intro e
    have e2 := e.trans hall.symm
    rw [ByteArray.append_left_inj, ByteArray.append_right_inj] at e2
    have hlt := num2_lt s 36 (by omega)
    exact (nb_inj (by omega) hlt (e2.trans (nb_cut s 36 (by omega)).symm)).symm
  · intro e
    rw [← e, nb_cut s 36 (by omega)]
    exact hall
theorem msgV_cut (s : ByteArray) (h : 38 ≤ s.size) :
    msgV (cut s 0 32) (numOf (cut s 32 34).data.toList : Nat) (numOf (cut s 34 36).data.toList : Nat) (cut s 38 s.size) = s ↔ RdMP s := by
  by_cases hm : MsgP (cut s 0 32) (numOf (cut s 32 34).data.toList : Nat) (numOf (cut s 34 36).data.toList : Nat) (cut s 38 s.size)
  · rw [msgV_yes hm, msgB_cut s h hm.2.2]
    exact ⟨fun e => ⟨h, e, hm⟩, fun c => c.2.1⟩
  · rw [msgV_no hm]
    constructor
    · intro e
      have := congrArg ByteArray.size e
      have h0 : (ByteArray.mk #[]).size = 0 := rfl
      omega
    · intro c
      exact absurd c.2.2 hm

set_option maxHeartbeats 4000000 in
theorem readMsg_s (s : ByteArray) (w : World) (hs : s.size ≤ 1048576) :
    Calls Tryd.prog 14 #[.string s] w fun e w' => e = .returned (.tuple #[.agg (rdMA s), .bool (decide (RdMP s))]) ∧ Below w.heap.size w w' := by
  have hb0 := below_box w (.cells zeroM 27)
  have q0 := BlkAt.box w zeroM 27
  have hs' : (s.size : Int) ≤ 1048576 := by omega
  by_cases h : 38 ≤ s.size
  case neg =>
    have hn : ¬ RdMP s := fun c => h c.1
    have h' : (s.size : Int) < 38 := by omega
    rw [rdMA_no hn, decide_eq_false hn]
    clear hn h
    go_enter Tryd.func14, Tryd.ntmps14
    go_wp2
    refine bodyPost_ret (v := .tuple #[.agg zeroM, .bool false]) (by simp [results, Tryd.results14, go_sem]) rfl ⟨rfl, ?_⟩
    repeat (refine Below.setCell ?_ (p := ⟨_, _, none⟩) (by first | (simp; done) | (simp; omega)) _)
    first | exact hb0 | exact Below.alloc (Below.refl _ _) (Nat.le_refl _) _
  have h' : (38 : Int) ≤ (s.size : Int) := by omega
  have h32 : (32 : Int) ≤ (s.size : Int) := by omega
  have H32 := Lib.hid (show ∀ w, Calls Tryd.prog 21 #[.string s, .int .i64 32, .int .i64 2] w fun e w' => e = .returned (.int .i64 (numOf (cut s 32 34).data.toList : Nat)) ∧ w' = w from fun w => (at32_s s w (by omega) hs).mono (fun e w' h => ⟨h.1, h.2.symm⟩))
  have H34 := Lib.hid (show ∀ w, Calls Tryd.prog 21 #[.string s, .int .i64 34, .int .i64 2] w fun e w' => e = .returned (.int .i64 (numOf (cut s 34 36).data.toList : Nat)) ∧ w' = w from fun w => (at34_s s w (by omega) hs).mono (fun e w' h => ⟨h.1, h.2.symm⟩))
  have z1 := cut_size s 0 32 (by omega)
  have z2 := cut_size s 38 s.size (Nat.le_refl _)
  have HM := Lib.hid (fun w => msgBytes_s (cut s 0 32) (numOf (cut s 32 34).data.toList : Nat) (numOf (cut s 34 36).data.toList : Nat) (cut s 38 s.size) w (by omega) (by omega))
  have HV := Lib.hid (msgV_cut s h)
  have e1 : (w.alloc (.cells zeroM 27)).heap.size = w.heap.size + 1 := by simp
  have r1 : BlkAt w.heap.size zeroM 27 (((w.alloc (.cells zeroM 27)).alloc (.cells (msgA (cut s 0 32) (numOf (cut s 32 34).data.toList : Nat) (numOf (cut s 34 36).data.toList : Nat) (cut s 38 s.size)) 27)).drew) := (BlkAt.box _ _ _).past _
  have o1 : BlkAt (w.heap.size + 1) (msgA (cut s 0 32) (numOf (cut s 32 34).data.toList : Nat) (numOf (cut s 34 36).data.toList : Nat) (cut s 38 s.size)) 27 (((w.alloc (.cells zeroM 27)).alloc (.cells (msgA (cut s 0 32) (numOf (cut s 32 34).data.toList : Nat) (numOf (cut s 34 36).data.toList : Nat) (cut s 38 s.size)) 27)).drew) := by rw [← e1]; exact BlkAt.box _ _ _
  have hB : Below w.heap.size w (((w.alloc (.cells zeroM 27)).alloc (.cells (msgA (cut s 0 32) (numOf (cut s 32 34).data.toList : Nat) (numOf (cut s 34 36).data.toList : Nat) (cut s 38 s.size)) 27)).drew) := ((below_box w _).alloc (by simp) _).drew
  clear z1 z2 hs h e1 q0 hb0
  by_cases hR : RdMP s
  · rw [HV.out.2 hR] at HM
    rw [rdMA_yes hR, decide_eq_true hR]
    clear HV hR
    go_enter Tryd.func14, Tryd.ntmps14
    go_wp2_with fail
    go_region_held3 (fun w' => True) (trivial) (first
      | (go_at_call_of 21 (Value.int IntKind.i64 32); refine (H32.out _).mono ?_; rintro e wq ⟨rfl, rfl⟩)
      | (go_at_call_of 21 (Value.int IntKind.i64 34); refine (H34.out _).mono ?_; rintro e wq ⟨rfl, rfl⟩))
    all_goals
      go_wp2_with fail
      refine (HM.out _).mono ?_
      rintro e w2 ⟨rfl, hb2⟩
      have r2 := BlkAt.below hb2 (by exact r1)
      have o2 := BlkAt.below hb2 (by exact o1)
      have hB2 := below_next hb2 (by exact hB) (by exact hB.size)
      have c0 := o2.cell (j := 0) rfl
      have d0 := r2.cell (j := 0) rfl
      have f0 := r2.froz (j := 0)
      have c1 := o2.cell (j := 1) rfl
      have d1 := r2.cell (j := 1) rfl
      have f1 := r2.froz (j := 1)
      have c2 := o2.cell (j := 2) rfl
      have d2 := r2.cell (j := 2) rfl
      have f2 := r2.froz (j := 2)
      have c3 := o2.cell (j := 3) rfl
      have d3 := r2.cell (j := 3) rfl
      have f3 := r2.froz (j := 3)
      go_wp2
      refine bodyPost_ret (v := .tuple #[.agg (msgA (cut s 0 32) (numOf (cut s 32 34).data.toList : Nat) (numOf (cut s 34 36).data.toList : Nat) (cut s 38 s.size)), .bool true]) (by simp [results, Tryd.results14, go_sem, *]) rfl ⟨rfl, ?_⟩
      repeat (refine Below.setCell ?_ (p := ⟨_, _, none⟩) (by first | (simp; done) | (simp; omega)) _)
      exact hB2
  · have hne : msgV (cut s 0 32) (numOf (cut s 32 34).data.toList : Nat) (numOf (cut s 34 36).data.toList : Nat) (cut s 38 s.size) ≠ s := fun e => hR (HV.out.1 e)
    rw [rdMA_no hR, decide_eq_false hR]
    clear HV hR
    generalize msgV (cut s 0 32) (numOf (cut s 32 34).data.toList : Nat) (numOf (cut s 34 36).data.toList : Nat) (cut s 38 s.size) = M at *
    have hne' := neq_list hne
    clear hne
    go_enter Tryd.func14, Tryd.ntmps14
    go_wp2_with fail
    go_region_held3 (fun w' => True) (trivial) (first
      | (go_at_call_of 21 (Value.int IntKind.i64 32); refine (H32.out _).mono ?_; rintro e wq ⟨rfl, rfl⟩)
      | (go_at_call_of 21 (Value.int IntKind.i64 34); refine (H34.out _).mono ?_; rintro e wq ⟨rfl, rfl⟩))
    all_goals
      go_wp2_with fail
      refine (HM.out _).mono ?_
      rintro e w2 ⟨rfl, hb2⟩
      have r2 := BlkAt.below hb2 (by exact r1)
      have o2 := BlkAt.below hb2 (by exact o1)
      have hB2 := below_next hb2 (by exact hB) (by exact hB.size)
      have c0 := o2.cell (j := 0) rfl
      have d0 := r2.cell (j := 0) rfl
      have f0 := r2.froz (j := 0)
      have c1 := o2.cell (j := 1) rfl
      have d1 := r2.cell (j := 1) rfl
      have f1 := r2.froz (j := 1)
      have c2 := o2.cell (j := 2) rfl
      have d2 := r2.cell (j := 2) rfl
      have f2 := r2.froz (j := 2)
      have c3 := o2.cell (j := 3) rfl
      have d3 := r2.cell (j := 3) rfl
      have f3 := r2.froz (j := 3)
      go_wp2
      refine bodyPost_ret (v := .tuple #[.agg zeroM, .bool false]) (by simp [results, Tryd.results14, go_sem, *]) rfl ⟨rfl, ?_⟩
      repeat (refine Below.setCell ?_ (p := ⟨_, _, none⟩) (by first | (simp; done) | (simp; omega)) _)
      exact hB2

end Go.Proofs.YtmolcpojdojmlaaDoor
