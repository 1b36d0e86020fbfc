/- The bytes of Inits and messages, by the program and by the specification. -/
import Derived.Test.YtmolcpojdojmlaaWire2
namespace Go.Proofs.Ytmolcpojdojmlaa
open Go.RowKit Go.My Go.Lib
set_option linter.unusedVariables false

def InitAt (k : Nat) (p q : ByteArray) (a : Int) (W : World) : Prop :=
  k < W.heap.size ∧ W.cell? ⟨k, 0, none⟩ = some (.string p) ∧ W.cell? ⟨k, 1, none⟩ = some (.string q) ∧ W.cell? ⟨k, 2, none⟩ = some (.int .i64 a)
theorem InitAt.below {k : Nat} {p q : ByteArray} {a : Int} {V W : World} (hb : Below V.heap.size V W) (h : InitAt k p q a V) : InitAt k p q a W :=
  ⟨Nat.lt_of_lt_of_le h.1 hb.size, (hb.cell (p := ⟨k, 0, none⟩) h.1).trans h.2.1, (hb.cell (p := ⟨k, 1, none⟩) h.1).trans h.2.2.1, (hb.cell (p := ⟨k, 2, none⟩) h.1).trans h.2.2.2⟩
def MsgAt (k : Nat) (p : ByteArray) (a b : Int) (s : ByteArray) (W : World) : Prop :=
  k < W.heap.size ∧ W.cell? ⟨k, 0, none⟩ = some (.string p) ∧ W.cell? ⟨k, 1, none⟩ = some (.int .i64 a) ∧ W.cell? ⟨k, 2, none⟩ = some (.int .i64 b) ∧ W.cell? ⟨k, 3, none⟩ = some (.string s)
theorem MsgAt.below {k : Nat} {p : ByteArray} {a b : Int} {s : ByteArray} {V W : World} (hb : Below V.heap.size V W) (h : MsgAt k p a b s V) : MsgAt k p a b s W :=
  ⟨Nat.lt_of_lt_of_le h.1 hb.size, (hb.cell (p := ⟨k, 0, none⟩) h.1).trans h.2.1, (hb.cell (p := ⟨k, 1, none⟩) h.1).trans h.2.2.1, (hb.cell (p := ⟨k, 2, none⟩) h.1).trans h.2.2.2.1, (hb.cell (p := ⟨k, 3, none⟩) h.1).trans h.2.2.2.2⟩
def initB (p q : ByteArray) (a : Int) : ByteArray := p ++ q ++ nb a 2
def initV (p q : ByteArray) (a : Int) : ByteArray := if InitP p q a then initB p q a else ⟨#[]⟩
theorem initV_yes {p q : ByteArray} {a : Int} (h : InitP p q a) : initV p q a = initB p q a := if_pos h
theorem initV_no {p q : ByteArray} {a : Int} (h : ¬ InitP p q a) : initV p q a = ⟨#[]⟩ := if_neg h
def msgB (p : ByteArray) (a b : Int) (s : ByteArray) : ByteArray := headB p a b ++ nb s.size 2 ++ s
def msgV (p : ByteArray) (a b : Int) (s : ByteArray) : ByteArray := if MsgP p a b s then msgB p a b s else ⟨#[]⟩
theorem msgV_yes {p : ByteArray} {a b : Int} {s : ByteArray} (h : MsgP p a b s) : msgV p a b s = msgB p a b s := if_pos h
theorem msgV_no {p : ByteArray} {a b : Int} {s : ByteArray} (h : ¬ MsgP p a b s) : msgV p a b s = ⟨#[]⟩ := if_neg h
theorem headB_size {p : ByteArray} {a b : Int} (h : HeadP p a b) : (headB p a b).size ≤ 46 := by
  unfold headB
  rw [cat_size, cat_size]
  have n1 := nb_size a 2 (by omega)
  have n2 := nb_size b 2 (by omega)
  have := h.1
  omega

set_option maxHeartbeats 2000000 in
theorem initBytes_i (p q : ByteArray) (a : Int) (w : World) (hp : p.size ≤ 9223372036854775807) (hq : q.size ≤ 9223372036854775807) :
    Calls Try.prog 12 #[.agg (initA p q a)] w fun e w' => e = .returned (.string (initV p q a)) ∧ Below w.heap.size w w' := by
  have hb0 := below_box w (.cells (initA p q a) 25)
  by_cases h : InitP p q a
  case neg =>
    have HV := Lib.hid (initV_no h)
    have H1 := Lib.hid (fun w => initOk_i p q a w false (decide_eq_false h) hp hq)
    clear h
    go_enter Try.func12, Try.ntmps12
    go_wp2_with fail
    refine (H1.out _).mono ?_
    rintro e w1 ⟨rfl, hb1⟩
    go_wp2
    go_ret
    exact ⟨by rw [HV.out]; rfl, hb0.trans (hb1.mono hb0.size)⟩
  have HV := Lib.hid (initV_yes h)
  have H1 := Lib.hid (fun w => initOk_i p q a w true (decide_eq_true h) hp hq)
  have HN := Lib.hid (show ∀ w, Calls Try.prog 32 #[.int .i64 a, .int .i64 2] w fun e w' => e = .returned (.string (nb a 2)) ∧ Below w.heap.size w w' from fun w => nb_i a 2 w (by unfold InitP at h; omega) (by omega))
  have n1 := nb_size a 2 (by omega)
  have hc1 : ¬ 9223372036854775807 < p.size + q.size := cat_ok (by unfold InitP at h; omega)
  have hc2 : ¬ 9223372036854775807 < (p ++ q).size + (nb a 2).size := cat_ok (by rw [cat_size]; unfold InitP at h; omega)
  have hc3 : ¬ 9223372036854775807 < p.size + q.size + (nb a 2).size := by rw [cat_size] at hc2; exact hc2
  have HB : Hid (initB p q a = p ++ q ++ nb a 2) := rfl
  clear h n1
  generalize nb a 2 = X at *
  go_enter Try.func12, Try.ntmps12
  go_wp2_with fail
  refine (H1.out _).mono ?_
  rintro e w1 ⟨rfl, hb1⟩
  have hS : InitAt w.heap.size p q a w1 := InitAt.below hb1 ⟨by simp, by simp [go_sem], by simp [go_sem], by simp [go_sem]⟩
  have hB : Below w.heap.size w w1 := hb0.trans (hb1.mono hb0.size)
  clear hb1 hb0
  have c0 := hS.2.1
  have c1 := hS.2.2.1
  have c2 := hS.2.2.2
  go_wp2_with fail
  go_region_held3 (fun w' => w'.cell? ⟨w.heap.size, 0, none⟩ = some (.string p) ∧ w'.cell? ⟨w.heap.size, 1, none⟩ = some (.string q) ∧ w'.cell? ⟨w.heap.size, 2, none⟩ = some (.int .i64 a)) (exact ⟨hS.2.1, hS.2.2.1, hS.2.2.2⟩) (first
    | (go_at_call 32; refine (HN.out _).mono ?_; rintro e wq ⟨rfl, hbq⟩; have hS := InitAt.below hbq (by exact hS); have hB := below_next hbq (by first | exact hB | exact hB.drew) (by first | exact hB.size | (have := hS.1; omega)); have c0 := hS.2.1; have c1 := hS.2.2.1; have c2 := hS.2.2.2))
  go_wp2
  go_ret
  exact ⟨by rw [HV.out, HB.out]; rfl, by first | exact hB | exact hB.drew⟩

set_option maxHeartbeats 2000000 in
theorem initBytes_s (p q : ByteArray) (a : Int) (w : World) (hp : p.size ≤ 9223372036854775807) (hq : q.size ≤ 9223372036854775807) :
    Calls Try.prog 13 #[.agg (initA p q a)] w fun e w' => e = .returned (.string (initV p q a)) ∧ Below w.heap.size w w' := by
  have hb0 := below_box w (.cells (initA p q a) 25)
  by_cases h : InitP p q a
  case neg =>
    have HV := Lib.hid (initV_no h)
    have H1 := Lib.hid (fun w => initOk_s p q a w false (decide_eq_false h) hp hq)
    clear h
    go_enter Try.func13, Try.ntmps13
    go_wp2_with fail
    refine (H1.out _).mono ?_
    rintro e w1 ⟨rfl, hb1⟩
    go_wp2
    go_ret
    exact ⟨by rw [HV.out]; rfl, hb0.trans (hb1.mono hb0.size)⟩
  have HV := Lib.hid (initV_yes h)
  have H1 := Lib.hid (fun w => initOk_s p q a w true (decide_eq_true h) hp hq)
  have HN := Lib.hid (show ∀ w, Calls Try.prog 34 #[.int .i64 a, .int .i64 2] w fun e w' => e = .returned (.string (nb a 2)) ∧ Below w.heap.size w w' from fun w => nb_s a 2 w (by unfold InitP at h; omega) (by omega) (by unfold InitP at h; simp; omega) (by unfold InitP at h; omega))
  have n1 := nb_size a 2 (by omega)
  have hc1 : ¬ 9223372036854775807 < p.size + q.size := cat_ok (by unfold InitP at h; omega)
  have hc2 : ¬ 9223372036854775807 < (p ++ q).size + (nb a 2).size := cat_ok (by rw [cat_size]; unfold InitP at h; omega)
  have hc3 : ¬ 9223372036854775807 < p.size + q.size + (nb a 2).size := by rw [cat_size] at hc2; exact hc2
  have HB : Hid (initB p q a = p ++ q ++ nb a 2) := rfl
  clear h n1
  generalize nb a 2 = X at *
  go_enter Try.func13, Try.ntmps13
  go_wp2_with fail
  refine (H1.out _).mono ?_
  rintro e w1 ⟨rfl, hb1⟩
  have hS : InitAt w.heap.size p q a w1 := InitAt.below hb1 ⟨by simp, by simp [go_sem], by simp [go_sem], by simp [go_sem]⟩
  have hB : Below w.heap.size w w1 := hb0.trans (hb1.mono hb0.size)
  clear hb1 hb0
  have c0 := hS.2.1
  have c1 := hS.2.2.1
  have c2 := hS.2.2.2
  go_wp2_with fail
  go_region_held3 (fun w' => w'.cell? ⟨w.heap.size, 0, none⟩ = some (.string p) ∧ w'.cell? ⟨w.heap.size, 1, none⟩ = some (.string q) ∧ w'.cell? ⟨w.heap.size, 2, none⟩ = some (.int .i64 a)) (exact ⟨hS.2.1, hS.2.2.1, hS.2.2.2⟩) (first
    | (go_at_call 34; refine (HN.out _).mono ?_; rintro e wq ⟨rfl, hbq⟩; have hS := InitAt.below hbq (by exact hS); have hB := below_next hbq (by first | exact hB | exact hB.drew) (by first | exact hB.size | (have := hS.1; omega)); have c0 := hS.2.1; have c1 := hS.2.2.1; have c2 := hS.2.2.2))
  go_wp2
  go_ret
  exact ⟨by rw [HV.out, HB.out]; rfl, by first | exact hB | exact hB.drew⟩

set_option maxHeartbeats 2000000 in
theorem l5MsgBytes_any (p : ByteArray) (a b : Int) (s : ByteArray) (w : World) (h : MsgP p a b s) :
    Calls Try.prog 35 #[.agg (msgA p a b s)] w fun e w' => e = .returned (.string (msgB p a b s)) ∧ Below w.heap.size w w' := by
  have hB := below_box w (.cells (msgA p a b s) 29)
  have HH := Lib.hid (fun w => l5HeadBytes_any p a b w h.1)
  have HN := Lib.hid (show ∀ w, Calls Try.prog 34 #[.int .i64 (s.size : Int), .int .i64 2] w fun e w' => e = .returned (.string (nb s.size 2)) ∧ Below w.heap.size w w' from fun w => nb_s s.size 2 w (by omega) (by omega) (by have := h.2; simp; omega) (by have := h.2; omega))
  have n1 := nb_size (s.size : Int) 2 (by omega)
  have n2 := headB_size h.1
  have hc1 : ¬ 9223372036854775807 < (headB p a b).size + (nb s.size 2).size := cat_ok (by omega)
  have hc2 : ¬ 9223372036854775807 < (headB p a b ++ nb s.size 2).size + s.size := cat_ok (by rw [cat_size]; have := h.2; omega)
  have hc3 : ¬ 9223372036854775807 < (headB p a b).size + (nb s.size 2).size + s.size := by rw [cat_size] at hc2; exact hc2
  have HB : Hid (msgB p a b s = headB p a b ++ nb s.size 2 ++ s) := rfl
  have hS : MsgAt w.heap.size p a b s (w.alloc (.cells (msgA p a b s) 29)) := ⟨by simp, by simp [go_sem], by simp [go_sem], by simp [go_sem], by simp [go_sem]⟩
  clear h n1 n2
  generalize nb s.size 2 = X at *
  generalize headB p a b = Y at *
  go_enter Try.func35, Try.ntmps35
  go_wp2_with fail
  generalize w.alloc (.cells (msgA p a b s) 29) = w1 at *
  have c0 := hS.2.1
  have c1 := hS.2.2.1
  have c2 := hS.2.2.2.1
  have c3 := hS.2.2.2.2
  go_region_held3 (fun w' => w'.cell? ⟨w.heap.size, 0, none⟩ = some (.string p) ∧ w'.cell? ⟨w.heap.size, 1, none⟩ = some (.int .i64 a) ∧ w'.cell? ⟨w.heap.size, 2, none⟩ = some (.int .i64 b) ∧ w'.cell? ⟨w.heap.size, 3, none⟩ = some (.string s)) (exact ⟨hS.2.1, hS.2.2.1, hS.2.2.2.1, hS.2.2.2.2⟩) (first
    | (go_at_call 40; refine (HH.out _).mono ?_; rintro e wq ⟨rfl, hbq⟩; have hS := MsgAt.below hbq (by exact hS); have hB := below_next hbq (by first | exact hB | exact hB.drew) (by first | exact hB.size | (have := hS.1; omega)); have c0 := hS.2.1; have c1 := hS.2.2.1; have c2 := hS.2.2.2.1; have c3 := hS.2.2.2.2)
    | (go_at_call 34; refine (HN.out _).mono ?_; rintro e wq ⟨rfl, hbq⟩; have hS := MsgAt.below hbq (by exact hS); have hB := below_next hbq (by first | exact hB | exact hB.drew) (by first | exact hB.size | (have := hS.1; omega)); have c0 := hS.2.1; have c1 := hS.2.2.1; have c2 := hS.2.2.2.1; have c3 := hS.2.2.2.2))
  go_wp2
  go_ret
  exact ⟨by rw [HB.out]; rfl, by first | exact hB | exact hB.drew⟩

set_option maxHeartbeats 2000000 in
theorem msgBytes_i (p : ByteArray) (a b : Int) (s : ByteArray) (w : World) (hp : p.size ≤ 9223372036854775807) (hs : s.size ≤ 9223372036854775807) :
    Calls Try.prog 16 #[.agg (msgA p a b s)] w fun e w' => e = .returned (.string (msgV p a b s)) ∧ Below w.heap.size w w' := by
  have hb0 := below_box w (.cells (msgA p a b s) 29)
  by_cases h : MsgP p a b s
  case neg =>
    have HV := Lib.hid (msgV_no h)
    have H1 := Lib.hid (fun w => msgOk_i p a b s w false (decide_eq_false h) hp hs)
    clear h
    go_enter Try.func16, Try.ntmps16
    go_wp2_with fail
    refine (H1.out _).mono ?_
    rintro e w1 ⟨rfl, hb1⟩
    go_wp2
    go_ret
    exact ⟨by rw [HV.out]; rfl, hb0.trans (hb1.mono hb0.size)⟩
  have HV := Lib.hid (msgV_yes h)
  have H1 := Lib.hid (fun w => msgOk_i p a b s w true (decide_eq_true h) hp hs)
  have HH := Lib.hid (show ∀ w, Calls Try.prog 14 #[.agg (headA p a b)] w fun e w' => e = .returned (.string (headB p a b)) ∧ Below w.heap.size w w' from fun w => headV_yes h.1 ▸ headBytes_i p a b w hp)
  have HN := Lib.hid (show ∀ w, Calls Try.prog 32 #[.int .i64 (s.size : Int), .int .i64 2] w fun e w' => e = .returned (.string (nb s.size 2)) ∧ Below w.heap.size w w' from fun w => nb_i s.size 2 w (by have := h.2; omega) (by omega))
  have n1 := nb_size (s.size : Int) 2 (by omega)
  have n2 := headB_size h.1
  have hc1 : ¬ 9223372036854775807 < (headB p a b).size + (nb s.size 2).size := cat_ok (by omega)
  have hc2 : ¬ 9223372036854775807 < (headB p a b ++ nb s.size 2).size + s.size := cat_ok (by rw [cat_size]; have := h.2; omega)
  have hc3 : ¬ 9223372036854775807 < (headB p a b).size + (nb s.size 2).size + s.size := by rw [cat_size] at hc2; exact hc2
  have HB : Hid (msgB p a b s = headB p a b ++ nb s.size 2 ++ s) := rfl
  clear h n1 n2
  generalize nb s.size 2 = X at *
  generalize headB p a b = Y at *
  go_enter Try.func16, Try.ntmps16
  go_wp2_with fail
  refine (H1.out _).mono ?_
  rintro e w1 ⟨rfl, hb1⟩
  have hS : MsgAt w.heap.size p a b s w1 := MsgAt.below hb1 ⟨by simp, by simp [go_sem], by simp [go_sem], by simp [go_sem], by simp [go_sem]⟩
  have hB : Below w.heap.size w w1 := hb0.trans (hb1.mono hb0.size)
  clear hb1 hb0
  have c0 := hS.2.1
  have c1 := hS.2.2.1
  have c2 := hS.2.2.2.1
  have c3 := hS.2.2.2.2
  go_wp2_with fail
  go_region_held3 (fun w' => w'.cell? ⟨w.heap.size, 0, none⟩ = some (.string p) ∧ w'.cell? ⟨w.heap.size, 1, none⟩ = some (.int .i64 a) ∧ w'.cell? ⟨w.heap.size, 2, none⟩ = some (.int .i64 b) ∧ w'.cell? ⟨w.heap.size, 3, none⟩ = some (.string s)) (exact ⟨hS.2.1, hS.2.2.1, hS.2.2.2.1, hS.2.2.2.2⟩) (first
    | (go_at_call 14; refine (HH.out _).mono ?_; rintro e wq ⟨rfl, hbq⟩; have hS := MsgAt.below hbq (by exact hS); have hB := below_next hbq (by first | exact hB | exact hB.drew) (by first | exact hB.size | (have := hS.1; omega)); have c0 := hS.2.1; have c1 := hS.2.2.1; have c2 := hS.2.2.2.1; have c3 := hS.2.2.2.2)
    | (go_at_call 32; refine (HN.out _).mono ?_; rintro e wq ⟨rfl, hbq⟩; have hS := MsgAt.below hbq (by exact hS); have hB := below_next hbq (by first | exact hB | exact hB.drew) (by first | exact hB.size | (have := hS.1; omega)); have c0 := hS.2.1; have c1 := hS.2.2.1; have c2 := hS.2.2.2.1; have c3 := hS.2.2.2.2))
  go_wp2
  go_ret
  exact ⟨by rw [HV.out, HB.out]; rfl, by first | exact hB | exact hB.drew⟩

end Go.Proofs.Ytmolcpojdojmlaa
