/- The bytes of an envelope, by the program and by the specification. -/
import Derived.Test.YtmolcpojdojmlaaWire4
namespace Go.Proofs.Ytmolcpojdojmlaa
open Go.RowKit Go.My Go.Lib
set_option linter.unusedVariables false

def hasB (z : Bool) (p q : ByteArray) (o : Int) : ByteArray := if z = true then ⟨#[1]⟩ ++ initB p q o else ⟨#[0]⟩
def envB (f t : Int) (z : Bool) (p q : ByteArray) (o : Int) (u : ByteArray) (a b : Int) (s : ByteArray) : ByteArray := nb f 1 ++ nb t 1 ++ hasB z p q o ++ msgB u a b s
def envV (f t : Int) (z : Bool) (p q : ByteArray) (o : Int) (u : ByteArray) (a b : Int) (s : ByteArray) : ByteArray := if EnvP f t z p q o u a b s then envB f t z p q o u a b s else ⟨#[]⟩
theorem envV_yes {f t : Int} {z : Bool} {p q : ByteArray} {o : Int} {u : ByteArray} {a b : Int} {s : ByteArray} (h : EnvP f t z p q o u a b s) : envV f t z p q o u a b s = envB f t z p q o u a b s := if_pos h
theorem envV_no {f t : Int} {z : Bool} {p q : ByteArray} {o : Int} {u : ByteArray} {a b : Int} {s : ByteArray} (h : ¬ EnvP f t z p q o u a b s) : envV f t z p q o u a b s = ⟨#[]⟩ := if_neg h
theorem initB_size {p q : ByteArray} {o : Int} (h : InitP p q o) : (initB p q o).size ≤ 71 := by
  unfold initB
  rw [cat_size, cat_size]
  have n1 := nb_size o 2 (by omega)
  have := h.1
  have := h.2.1
  omega
theorem msgB_size {p : ByteArray} {a b : Int} {s : ByteArray} (h : MsgP p a b s) : (msgB p a b s).size ≤ 485 := by
  unfold msgB
  rw [cat_size, cat_size]
  have n1 := nb_size (s.size : Int) 2 (by omega)
  have n2 := headB_size h.1
  have := h.2
  omega
theorem sz1 (x : UInt8) : (ByteArray.mk #[x]).size = 1 := rfl

set_option maxHeartbeats 4000000 in
theorem envBytes_i (f t : Int) (z : Bool) (p q : ByteArray) (o : Int) (u : ByteArray) (a b : Int) (s : ByteArray) (w : World) (hp : p.size ≤ 9223372036854775807) (hq : q.size ≤ 9223372036854775807) (hu : u.size ≤ 9223372036854775807) (hs : s.size ≤ 9223372036854775807) :
    Calls Try.prog 10 #[.agg (envA f t z p q o u a b s)] w fun e w' => e = .returned (.string (envV f t z p q o u a b s)) ∧ Below w.heap.size w w' := by
  have hb0 := below_box w (.cells (envA f t z p q o u a b s) 31)
  by_cases h : EnvP f t z p q o u a b s
  case neg =>
    have HV := Lib.hid (envV_no h)
    have H1 := Lib.hid (fun w => envOk_i f t z p q o u a b s w false (decide_eq_false h) hp hq hu hs)
    clear h
    go_enter Try.func10, Try.ntmps10
    go_wp2_with fail
    refine (H1.out _).mono ?_
    rintro e w1 ⟨rfl, hb1⟩
    go_wp2
    go_ret
    exact ⟨by rw [HV.out]; rfl, hb0.trans (hb1.mono hb0.size)⟩
  have HV := Lib.hid (envV_yes h)
  have H1 := Lib.hid (fun w => envOk_i f t z p q o u a b s w true (decide_eq_true h) hp hq hu hs)
  have hS := BlkAt.box w (envA f t z p q o u a b s) 31
  have hX := nb_size f 1 (by omega)
  have hY := nb_size t 1 (by omega)
  have hM := msgB_size h.2.2.2.1
  have HF := Lib.hid (show ∀ w, Calls Try.prog 32 #[.int .i64 f, .int .i64 1] w fun e w' => e = .returned (.string (nb f 1)) ∧ Below w.heap.size w w' from fun w => nb_i f 1 w (by have := h.1; unfold IdP at this; omega) (by omega))
  have HT := Lib.hid (show ∀ w, Calls Try.prog 32 #[.int .i64 t, .int .i64 1] w fun e w' => e = .returned (.string (nb t 1)) ∧ Below w.heap.size w w' from fun w => nb_i t 1 w (by have := h.2.1; unfold IdP at this; omega) (by omega))
  have HM := Lib.hid (show ∀ w, Calls Try.prog 16 #[.agg (msgA u a b s)] w fun e w' => e = .returned (.string (msgB u a b s)) ∧ Below w.heap.size w w' from fun w => msgV_yes h.2.2.2.1 ▸ msgBytes_i u a b s w hu hs)
  have hH := h.2.2.2.2
  have hc1 : ¬ 9223372036854775807 < (nb f 1).size + (nb t 1).size := cat_ok (by omega)
  have HXY : Hid ((nb f 1 ++ nb t 1).size ≤ 14) := by show _ ≤ _; rw [cat_size]; omega
  clear h
  cases z
  case true =>
    have hI : InitP p q o := by unfold HasP at hH; simpa using hH
    have HI := Lib.hid (show ∀ w, Calls Try.prog 12 #[.agg (initA p q o)] w fun e w' => e = .returned (.string (initB p q o)) ∧ Below w.heap.size w w' from fun w => initV_yes hI ▸ initBytes_i p q o w hp hq)
    have hIs := initB_size hI
    have HB : Hid (envB f t true p q o u a b s = (nb f 1 ++ nb t 1) ++ (⟨#[1]⟩ ++ initB p q o) ++ msgB u a b s) := rfl
    clear hH hI
    have hc2 : ¬ 9223372036854775807 < (ByteArray.mk #[1]).size + (initB p q o).size := by rw [sz1]; omega
    have hc3 : ¬ 9223372036854775807 < (nb f 1 ++ nb t 1).size + (ByteArray.mk #[1] ++ initB p q o).size := cat_ok (by rw [cat_size (ByteArray.mk #[1]), sz1]; have := HXY.out; omega)
    have hc4 : ¬ 9223372036854775807 < (nb f 1 ++ nb t 1 ++ (ByteArray.mk #[1] ++ initB p q o)).size + (msgB u a b s).size := cat_ok (by rw [cat_size, cat_size (ByteArray.mk #[1]), sz1]; have := HXY.out; omega)
    clear hX hY hM hIs
    generalize nb f 1 = X at *
    generalize nb t 1 = Y at *
    generalize initB p q o = I at *
    generalize msgB u a b s = M at *
    go_enter Try.func10, Try.ntmps10
    go_wp2_with fail
    refine (H1.out _).mono ?_
    rintro e w1 ⟨rfl, hb1⟩
    have hS := BlkAt.below hb1 hS
    have hB : Below w.heap.size w w1 := hb0.trans (hb1.mono hb0.size)
    clear hb1 hb0
    have c0 := hS.cell (j := 0) rfl
    have c1 := hS.cell (j := 1) rfl
    have c2 := hS.cell (j := 2) rfl
    have c3 := hS.cell (j := 3) rfl
    have c4 := hS.cell (j := 4) rfl
    have c5 := hS.cell (j := 5) rfl
    have c6 := hS.cell (j := 6) rfl
    have c7 := hS.cell (j := 7) rfl
    have c8 := hS.cell (j := 8) rfl
    have c9 := hS.cell (j := 9) rfl
    go_wp2_with fail
    go_region_held3 (fun w' => w'.cell? ⟨w.heap.size, 0, none⟩ = some (.int .i64 f) ∧ w'.cell? ⟨w.heap.size, 1, none⟩ = some (.int .i64 t)) (exact ⟨hS.cell (j := 0) rfl, hS.cell (j := 1) rfl⟩) (first
      | (go_at_call_of 32 f; refine (HF.out _).mono ?_; rintro e wq ⟨rfl, hbq⟩; have hS := BlkAt.below hbq (by exact hS); have hB := below_next hbq (by first | exact hB | exact hB.drew) (by first | exact hB.size | (have := hS.lt; omega)); have c0 := hS.cell (j := 0) rfl; have c1 := hS.cell (j := 1) rfl; have c2 := hS.cell (j := 2) rfl; have c3 := hS.cell (j := 3) rfl; have c4 := hS.cell (j := 4) rfl; have c5 := hS.cell (j := 5) rfl; have c6 := hS.cell (j := 6) rfl; have c7 := hS.cell (j := 7) rfl; have c8 := hS.cell (j := 8) rfl; have c9 := hS.cell (j := 9) rfl)
      | (go_at_call_of 32 t; refine (HT.out _).mono ?_; rintro e wq ⟨rfl, hbq⟩; have hS := BlkAt.below hbq (by exact hS); have hB := below_next hbq (by first | exact hB | exact hB.drew) (by first | exact hB.size | (have := hS.lt; omega)); have c0 := hS.cell (j := 0) rfl; have c1 := hS.cell (j := 1) rfl; have c2 := hS.cell (j := 2) rfl; have c3 := hS.cell (j := 3) rfl; have c4 := hS.cell (j := 4) rfl; have c5 := hS.cell (j := 5) rfl; have c6 := hS.cell (j := 6) rfl; have c7 := hS.cell (j := 7) rfl; have c8 := hS.cell (j := 8) rfl; have c9 := hS.cell (j := 9) rfl))
    have hB := (by first | exact hB | exact hB.drew : Below w.heap.size w _)
    go_wp2_with fail
    refine (HI.out _).mono ?_
    rintro e w3 ⟨rfl, hb3⟩
    have hS := BlkAt.below hb3 hS
    have hB := below_next hb3 (by first | exact hB | exact hB.drew) (by first | exact hB.size)
    have d6 := hS.cell (j := 6) rfl
    have d7 := hS.cell (j := 7) rfl
    have d8 := hS.cell (j := 8) rfl
    have d9 := hS.cell (j := 9) rfl
    go_wp2_with fail
    refine (HM.out _).mono ?_
    rintro e w4 ⟨rfl, hb4⟩
    have hB := below_next hb4 hB hB.size
    go_wp2
    go_ret
    exact ⟨by rw [HV.out, HB.out]; rfl, hB⟩
  case false =>
    have HB : Hid (envB f t false p q o u a b s = (nb f 1 ++ nb t 1) ++ ⟨#[0]⟩ ++ msgB u a b s) := rfl
    clear hH
    have hc3 : ¬ 9223372036854775807 < (nb f 1 ++ nb t 1).size + (ByteArray.mk #[0]).size := cat_ok (by rw [sz1]; have := HXY.out; omega)
    have hc4 : ¬ 9223372036854775807 < (nb f 1 ++ nb t 1 ++ ByteArray.mk #[0]).size + (msgB u a b s).size := cat_ok (by rw [cat_size, sz1]; have := HXY.out; omega)
    clear hX hY hM
    generalize nb f 1 = X at *
    generalize nb t 1 = Y at *
    generalize msgB u a b s = M at *
    go_enter Try.func10, Try.ntmps10
    go_wp2_with fail
    refine (H1.out _).mono ?_
    rintro e w1 ⟨rfl, hb1⟩
    have hS := BlkAt.below hb1 hS
    have hB : Below w.heap.size w w1 := hb0.trans (hb1.mono hb0.size)
    clear hb1 hb0
    have c0 := hS.cell (j := 0) rfl
    have c1 := hS.cell (j := 1) rfl
    have c2 := hS.cell (j := 2) rfl
    have c3 := hS.cell (j := 3) rfl
    have c4 := hS.cell (j := 4) rfl
    have c5 := hS.cell (j := 5) rfl
    have c6 := hS.cell (j := 6) rfl
    have c7 := hS.cell (j := 7) rfl
    have c8 := hS.cell (j := 8) rfl
    have c9 := hS.cell (j := 9) rfl
    go_wp2_with fail
    go_region_held3 (fun w' => w'.cell? ⟨w.heap.size, 0, none⟩ = some (.int .i64 f) ∧ w'.cell? ⟨w.heap.size, 1, none⟩ = some (.int .i64 t)) (exact ⟨hS.cell (j := 0) rfl, hS.cell (j := 1) rfl⟩) (first
      | (go_at_call_of 32 f; refine (HF.out _).mono ?_; rintro e wq ⟨rfl, hbq⟩; have hS := BlkAt.below hbq (by exact hS); have hB := below_next hbq (by first | exact hB | exact hB.drew) (by first | exact hB.size | (have := hS.lt; omega)); have c0 := hS.cell (j := 0) rfl; have c1 := hS.cell (j := 1) rfl; have c2 := hS.cell (j := 2) rfl; have c3 := hS.cell (j := 3) rfl; have c4 := hS.cell (j := 4) rfl; have c5 := hS.cell (j := 5) rfl; have c6 := hS.cell (j := 6) rfl; have c7 := hS.cell (j := 7) rfl; have c8 := hS.cell (j := 8) rfl; have c9 := hS.cell (j := 9) rfl)
      | (go_at_call_of 32 t; refine (HT.out _).mono ?_; rintro e wq ⟨rfl, hbq⟩; have hS := BlkAt.below hbq (by exact hS); have hB := below_next hbq (by first | exact hB | exact hB.drew) (by first | exact hB.size | (have := hS.lt; omega)); have c0 := hS.cell (j := 0) rfl; have c1 := hS.cell (j := 1) rfl; have c2 := hS.cell (j := 2) rfl; have c3 := hS.cell (j := 3) rfl; have c4 := hS.cell (j := 4) rfl; have c5 := hS.cell (j := 5) rfl; have c6 := hS.cell (j := 6) rfl; have c7 := hS.cell (j := 7) rfl; have c8 := hS.cell (j := 8) rfl; have c9 := hS.cell (j := 9) rfl))
    have hB := (by first | exact hB | exact hB.drew : Below w.heap.size w _)
    go_wp2_with fail
    refine (HM.out _).mono ?_
    rintro e w4 ⟨rfl, hb4⟩
    have hB := below_next hb4 (by first | exact hB | exact hB.drew) (by first | exact hB.size)
    go_wp2
    go_ret
    exact ⟨by rw [HV.out, HB.out]; rfl, hB⟩

set_option maxHeartbeats 4000000 in
theorem envBytes_s (f t : Int) (z : Bool) (p q : ByteArray) (o : Int) (u : ByteArray) (a b : Int) (s : ByteArray) (w : World) (hp : p.size ≤ 9223372036854775807) (hq : q.size ≤ 9223372036854775807) (hu : u.size ≤ 9223372036854775807) (hs : s.size ≤ 9223372036854775807) :
    Calls Try.prog 11 #[.agg (envA f t z p q o u a b s)] w fun e w' => e = .returned (.string (envV f t z p q o u a b s)) ∧ Below w.heap.size w w' := by
  have hb0 := below_box w (.cells (envA f t z p q o u a b s) 31)
  by_cases h : EnvP f t z p q o u a b s
  case neg =>
    have HV := Lib.hid (envV_no h)
    have H1 := Lib.hid (fun w => envOk_s f t z p q o u a b s w false (decide_eq_false h) hp hq hu hs)
    clear h
    go_enter Try.func11, Try.ntmps11
    go_wp2_with fail
    refine (H1.out _).mono ?_
    rintro e w1 ⟨rfl, hb1⟩
    go_wp2
    go_ret
    exact ⟨by rw [HV.out]; rfl, hb0.trans (hb1.mono hb0.size)⟩
  have HV := Lib.hid (envV_yes h)
  have H1 := Lib.hid (fun w => envOk_s f t z p q o u a b s w true (decide_eq_true h) hp hq hu hs)
  have hS := BlkAt.box w (envA f t z p q o u a b s) 31
  have hX := nb_size f 1 (by omega)
  have hY := nb_size t 1 (by omega)
  have hM := msgB_size h.2.2.2.1
  have HF := Lib.hid (show ∀ w, Calls Try.prog 34 #[.int .i64 f, .int .i64 1] w fun e w' => e = .returned (.string (nb f 1)) ∧ Below w.heap.size w w' from fun w => nb_s f 1 w (by have := h.1; unfold IdP at this; omega) (by omega) (by have := h.1; unfold IdP at this; simp; omega) (by have := h.1; unfold IdP at this; omega))
  have HT := Lib.hid (show ∀ w, Calls Try.prog 34 #[.int .i64 t, .int .i64 1] w fun e w' => e = .returned (.string (nb t 1)) ∧ Below w.heap.size w w' from fun w => nb_s t 1 w (by have := h.2.1; unfold IdP at this; omega) (by omega) (by have := h.2.1; unfold IdP at this; simp; omega) (by have := h.2.1; unfold IdP at this; omega))
  have HM := Lib.hid (fun w => l5MsgBytes_any u a b s w h.2.2.2.1)
  have hH := h.2.2.2.2
  have hc1 : ¬ 9223372036854775807 < (nb f 1).size + (nb t 1).size := cat_ok (by omega)
  have HXY : Hid ((nb f 1 ++ nb t 1).size ≤ 14) := by show _ ≤ _; rw [cat_size]; omega
  clear h
  cases z
  case true =>
    have hI : InitP p q o := by unfold HasP at hH; simpa using hH
    have HI := Lib.hid (show ∀ w, Calls Try.prog 13 #[.agg (initA p q o)] w fun e w' => e = .returned (.string (initB p q o)) ∧ Below w.heap.size w w' from fun w => initV_yes hI ▸ initBytes_s p q o w hp hq)
    have hIs := initB_size hI
    have HB : Hid (envB f t true p q o u a b s = nb f 1 ++ nb t 1 ++ ⟨#[1]⟩ ++ initB p q o ++ msgB u a b s) := by
      show _ = _
      unfold envB hasB
      rw [if_pos rfl, ← ByteArray.append_assoc]
    clear hH hI
    have hc2 : ¬ 9223372036854775807 < (nb f 1 ++ nb t 1).size + (ByteArray.mk #[1]).size := cat_ok (by rw [sz1]; have := HXY.out; omega)
    have hc2' : ¬ 9223372036854775807 < (nb f 1).size + (nb t 1).size + 1 := by omega
    have hc3 : ¬ 9223372036854775807 < (nb f 1 ++ nb t 1 ++ ByteArray.mk #[1]).size + (initB p q o).size := cat_ok (by rw [cat_size, sz1]; have := HXY.out; omega)
    have hc3' : ¬ 9223372036854775807 < (nb f 1).size + (nb t 1).size + 1 + (initB p q o).size := by omega
    have hc4 : ¬ 9223372036854775807 < (nb f 1 ++ nb t 1 ++ ByteArray.mk #[1] ++ initB p q o).size + (msgB u a b s).size := cat_ok (by rw [cat_size, cat_size, sz1]; have := HXY.out; omega)
    have hc4' : ¬ 9223372036854775807 < (nb f 1).size + (nb t 1).size + 1 + (initB p q o).size + (msgB u a b s).size := by omega
    clear hX hY hM hIs
    generalize nb f 1 = X at *
    generalize nb t 1 = Y at *
    generalize initB p q o = I at *
    generalize msgB u a b s = M at *
    go_enter Try.func11, Try.ntmps11
    go_wp2_with fail
    refine (H1.out _).mono ?_
    rintro e w1 ⟨rfl, hb1⟩
    have hS := BlkAt.below hb1 hS
    have hB : Below w.heap.size w w1 := hb0.trans (hb1.mono hb0.size)
    clear hb1 hb0
    have c0 := hS.cell (j := 0) rfl
    have c1 := hS.cell (j := 1) rfl
    have c2 := hS.cell (j := 2) rfl
    have c3 := hS.cell (j := 3) rfl
    have c4 := hS.cell (j := 4) rfl
    have c5 := hS.cell (j := 5) rfl
    have c6 := hS.cell (j := 6) rfl
    have c7 := hS.cell (j := 7) rfl
    have c8 := hS.cell (j := 8) rfl
    have c9 := hS.cell (j := 9) rfl
    go_wp2_with fail
    go_region_held3 (fun w' => w'.cell? ⟨w.heap.size, 0, none⟩ = some (.int .i64 f) ∧ w'.cell? ⟨w.heap.size, 1, none⟩ = some (.int .i64 t) ∧ w'.cell? ⟨w.heap.size, 2, none⟩ = some (.bool true) ∧ w'.cell? ⟨w.heap.size, 3, none⟩ = some (.string p) ∧ w'.cell? ⟨w.heap.size, 4, none⟩ = some (.string q) ∧ w'.cell? ⟨w.heap.size, 5, none⟩ = some (.int .i64 o) ∧ w'.cell? ⟨w.heap.size, 6, none⟩ = some (.string u) ∧ w'.cell? ⟨w.heap.size, 7, none⟩ = some (.int .i64 a) ∧ w'.cell? ⟨w.heap.size, 8, none⟩ = some (.int .i64 b) ∧ w'.cell? ⟨w.heap.size, 9, none⟩ = some (.string s)) (exact ⟨hS.cell (j := 0) rfl, hS.cell (j := 1) rfl, hS.cell (j := 2) rfl, hS.cell (j := 3) rfl, hS.cell (j := 4) rfl, hS.cell (j := 5) rfl, hS.cell (j := 6) rfl, hS.cell (j := 7) rfl, hS.cell (j := 8) rfl, hS.cell (j := 9) rfl⟩) (first
      | (go_at_call_of 34 f; refine (HF.out _).mono ?_; rintro e wq ⟨rfl, hbq⟩; have hS := BlkAt.below hbq (by exact hS); have hB := below_next hbq (by first | exact hB | exact hB.drew) (by first | exact hB.size | (have := hS.lt; omega)); have c0 := hS.cell (j := 0) rfl; have c1 := hS.cell (j := 1) rfl; have c2 := hS.cell (j := 2) rfl; have c3 := hS.cell (j := 3) rfl; have c4 := hS.cell (j := 4) rfl; have c5 := hS.cell (j := 5) rfl; have c6 := hS.cell (j := 6) rfl; have c7 := hS.cell (j := 7) rfl; have c8 := hS.cell (j := 8) rfl; have c9 := hS.cell (j := 9) rfl)
      | (go_at_call_of 34 t; refine (HT.out _).mono ?_; rintro e wq ⟨rfl, hbq⟩; have hS := BlkAt.below hbq (by exact hS); have hB := below_next hbq (by first | exact hB | exact hB.drew) (by first | exact hB.size | (have := hS.lt; omega)); have c0 := hS.cell (j := 0) rfl; have c1 := hS.cell (j := 1) rfl; have c2 := hS.cell (j := 2) rfl; have c3 := hS.cell (j := 3) rfl; have c4 := hS.cell (j := 4) rfl; have c5 := hS.cell (j := 5) rfl; have c6 := hS.cell (j := 6) rfl; have c7 := hS.cell (j := 7) rfl; have c8 := hS.cell (j := 8) rfl; have c9 := hS.cell (j := 9) rfl)
      | (go_at_call 13; refine (HI.out _).mono ?_; rintro e wq ⟨rfl, hbq⟩; have hS := BlkAt.below hbq (by exact hS); have hB := below_next hbq (by first | exact hB | exact hB.drew) (by first | exact hB.size | (have := hS.lt; omega)); have c0 := hS.cell (j := 0) rfl; have c1 := hS.cell (j := 1) rfl; have c2 := hS.cell (j := 2) rfl; have c3 := hS.cell (j := 3) rfl; have c4 := hS.cell (j := 4) rfl; have c5 := hS.cell (j := 5) rfl; have c6 := hS.cell (j := 6) rfl; have c7 := hS.cell (j := 7) rfl; have c8 := hS.cell (j := 8) rfl; have c9 := hS.cell (j := 9) rfl)
      | (go_at_call 35; refine (HM.out _).mono ?_; rintro e wq ⟨rfl, hbq⟩; have hS := BlkAt.below hbq (by exact hS); have hB := below_next hbq (by first | exact hB | exact hB.drew) (by first | exact hB.size | (have := hS.lt; omega)); have c0 := hS.cell (j := 0) rfl; have c1 := hS.cell (j := 1) rfl; have c2 := hS.cell (j := 2) rfl; have c3 := hS.cell (j := 3) rfl; have c4 := hS.cell (j := 4) rfl; have c5 := hS.cell (j := 5) rfl; have c6 := hS.cell (j := 6) rfl; have c7 := hS.cell (j := 7) rfl; have c8 := hS.cell (j := 8) rfl; have c9 := hS.cell (j := 9) rfl))
    go_wp2
    go_ret
    exact ⟨by rw [HV.out, HB.out]; rfl, by first | exact hB | exact hB.drew⟩
  case false =>
    have HB : Hid (envB f t false p q o u a b s = (nb f 1 ++ nb t 1) ++ ⟨#[0]⟩ ++ msgB u a b s) := rfl
    clear hH
    have hc3 : ¬ 9223372036854775807 < (nb f 1 ++ nb t 1).size + (ByteArray.mk #[0]).size := cat_ok (by rw [sz1]; have := HXY.out; omega)
    have hc3' : ¬ 9223372036854775807 < (nb f 1).size + (nb t 1).size + 1 := by omega
    have hc4 : ¬ 9223372036854775807 < (nb f 1 ++ nb t 1 ++ ByteArray.mk #[0]).size + (msgB u a b s).size := cat_ok (by rw [cat_size, sz1]; have := HXY.out; omega)
    have hc4' : ¬ 9223372036854775807 < (nb f 1).size + (nb t 1).size + 1 + (msgB u a b s).size := by omega
    clear hX hY hM
    generalize nb f 1 = X at *
    generalize nb t 1 = Y at *
    generalize msgB u a b s = M at *
    go_enter Try.func11, Try.ntmps11
    go_wp2_with fail
    refine (H1.out _).mono ?_
    rintro e w1 ⟨rfl, hb1⟩
    have hS := BlkAt.below hb1 hS
    have hB : Below w.heap.size w w1 := hb0.trans (hb1.mono hb0.size)
    clear hb1 hb0
    have c0 := hS.cell (j := 0) rfl
    have c1 := hS.cell (j := 1) rfl
    have c2 := hS.cell (j := 2) rfl
    have c3 := hS.cell (j := 3) rfl
    have c4 := hS.cell (j := 4) rfl
    have c5 := hS.cell (j := 5) rfl
    have c6 := hS.cell (j := 6) rfl
    have c7 := hS.cell (j := 7) rfl
    have c8 := hS.cell (j := 8) rfl
    have c9 := hS.cell (j := 9) rfl
    go_wp2_with fail
    go_region_held3 (fun w' => w'.cell? ⟨w.heap.size, 0, none⟩ = some (.int .i64 f) ∧ w'.cell? ⟨w.heap.size, 1, none⟩ = some (.int .i64 t) ∧ w'.cell? ⟨w.heap.size, 2, none⟩ = some (.bool false) ∧ w'.cell? ⟨w.heap.size, 3, none⟩ = some (.string p) ∧ w'.cell? ⟨w.heap.size, 4, none⟩ = some (.string q) ∧ w'.cell? ⟨w.heap.size, 5, none⟩ = some (.int .i64 o) ∧ w'.cell? ⟨w.heap.size, 6, none⟩ = some (.string u) ∧ w'.cell? ⟨w.heap.size, 7, none⟩ = some (.int .i64 a) ∧ w'.cell? ⟨w.heap.size, 8, none⟩ = some (.int .i64 b) ∧ w'.cell? ⟨w.heap.size, 9, none⟩ = some (.string s)) (exact ⟨hS.cell (j := 0) rfl, hS.cell (j := 1) rfl, hS.cell (j := 2) rfl, hS.cell (j := 3) rfl, hS.cell (j := 4) rfl, hS.cell (j := 5) rfl, hS.cell (j := 6) rfl, hS.cell (j := 7) rfl, hS.cell (j := 8) rfl, hS.cell (j := 9) rfl⟩) (first
      | (go_at_call_of 34 f; refine (HF.out _).mono ?_; rintro e wq ⟨rfl, hbq⟩; have hS := BlkAt.below hbq (by exact hS); have hB := below_next hbq (by first | exact hB | exact hB.drew) (by first | exact hB.size | (have := hS.lt; omega)); have c0 := hS.cell (j := 0) rfl; have c1 := hS.cell (j := 1) rfl; have c2 := hS.cell (j := 2) rfl; have c3 := hS.cell (j := 3) rfl; have c4 := hS.cell (j := 4) rfl; have c5 := hS.cell (j := 5) rfl; have c6 := hS.cell (j := 6) rfl; have c7 := hS.cell (j := 7) rfl; have c8 := hS.cell (j := 8) rfl; have c9 := hS.cell (j := 9) rfl)
      | (go_at_call_of 34 t; refine (HT.out _).mono ?_; rintro e wq ⟨rfl, hbq⟩; have hS := BlkAt.below hbq (by exact hS); have hB := below_next hbq (by first | exact hB | exact hB.drew) (by first | exact hB.size | (have := hS.lt; omega)); have c0 := hS.cell (j := 0) rfl; have c1 := hS.cell (j := 1) rfl; have c2 := hS.cell (j := 2) rfl; have c3 := hS.cell (j := 3) rfl; have c4 := hS.cell (j := 4) rfl; have c5 := hS.cell (j := 5) rfl; have c6 := hS.cell (j := 6) rfl; have c7 := hS.cell (j := 7) rfl; have c8 := hS.cell (j := 8) rfl; have c9 := hS.cell (j := 9) rfl)
      | (go_at_call 35; refine (HM.out _).mono ?_; rintro e wq ⟨rfl, hbq⟩; have hS := BlkAt.below hbq (by exact hS); have hB := below_next hbq (by first | exact hB | exact hB.drew) (by first | exact hB.size | (have := hS.lt; omega)); have c0 := hS.cell (j := 0) rfl; have c1 := hS.cell (j := 1) rfl; have c2 := hS.cell (j := 2) rfl; have c3 := hS.cell (j := 3) rfl; have c4 := hS.cell (j := 4) rfl; have c5 := hS.cell (j := 5) rfl; have c6 := hS.cell (j := 6) rfl; have c7 := hS.cell (j := 7) rfl; have c8 := hS.cell (j := 8) rfl; have c9 := hS.cell (j := 9) rfl))
    go_wp2
    go_ret
    exact ⟨by rw [HV.out, HB.out]; rfl, by first | exact hB | exact hB.drew⟩

end Go.Proofs.Ytmolcpojdojmlaa
