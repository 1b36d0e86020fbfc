/- The laws' own copies of heads, Inits and messages, and their counts of bytes. -/
import Derived.Test.YtimkcbhebkdiiaaWire3
namespace Go.Proofs.Ytimkcbhebkdiiaa
open Go.RowKit Go.My Go.Lib
set_option linter.unusedVariables false

set_option maxHeartbeats 2000000 in
theorem toHead_any (p : ByteArray) (a b : Int) (w : World) :
    Calls Try.prog 20 #[.agg (headA p a b)] w fun e w' => e = .returned (.agg (headA p a b)) ∧ Below w.heap.size w w' := by
  go_enter Try.func20, Try.ntmps20
  go_wp2
  refine bodyPost_ret (v := .agg (headA p a b)) (by simp [results, Try.results20, go_sem]) rfl ⟨rfl, ?_⟩
  repeat (refine Below.setCell ?_ (p := ⟨_, _, none⟩) (by first | (simp; done) | (simp; omega)) _)
  repeat (refine Below.alloc ?_ (by first | (simp; done) | (simp; omega)) _)
  exact Below.refl _ _

set_option maxHeartbeats 2000000 in
theorem toInit_any (p q : ByteArray) (a : Int) (w : World) :
    Calls Try.prog 25 #[.agg (initA p q a)] w fun e w' => e = .returned (.agg (initA p q a)) ∧ Below w.heap.size w w' := by
  go_enter Try.func25, Try.ntmps25
  go_wp2
  refine bodyPost_ret (v := .agg (initA p q a)) (by simp [results, Try.results25, go_sem]) rfl ⟨rfl, ?_⟩
  repeat (refine Below.setCell ?_ (p := ⟨_, _, none⟩) (by first | (simp; done) | (simp; omega)) _)
  repeat (refine Below.alloc ?_ (by first | (simp; done) | (simp; omega)) _)
  exact Below.refl _ _

set_option maxHeartbeats 2000000 in
theorem toMsg_any (p : ByteArray) (a b : Int) (s : ByteArray) (w : World) :
    Calls Try.prog 23 #[.agg (msgA p a b s)] w fun e w' => e = .returned (.agg (msgA p a b s)) ∧ Below w.heap.size w w' := by
  go_enter Try.func23, Try.ntmps23
  go_wp2_with fail
  refine (toHead_any p a b _).mono ?_
  rintro e w1 ⟨rfl, hb1⟩
  have hb0 : Below w.heap.size w w1 := (((below_box w _).alloc (by simp) _).alloc (by simp; omega) _).trans (hb1.mono (by simp; omega))
  have q3 : w1.cell? ⟨w.heap.size, 3, none⟩ = some (.string s) := (hb1.cell (p := ⟨w.heap.size, 3, none⟩) (by simp; omega)).trans (by simp [go_sem])
  have r0 : w1.cell? ⟨w.heap.size + 1, 0, none⟩ = some (.string ⟨#[]⟩) := (hb1.cell (p := ⟨w.heap.size + 1, 0, none⟩) (by simp)).trans (by simp [go_sem])
  have fr0 : w1.frozen? ⟨w.heap.size + 1, 0, none⟩ = false := (hb1.frozen (p := ⟨w.heap.size + 1, 0, none⟩) (by simp)).trans (by simp [go_sem])
  have r1 : w1.cell? ⟨w.heap.size + 1, 1, none⟩ = some (.int .i64 0) := (hb1.cell (p := ⟨w.heap.size + 1, 1, none⟩) (by simp)).trans (by simp [go_sem])
  have fr1 : w1.frozen? ⟨w.heap.size + 1, 1, none⟩ = false := (hb1.frozen (p := ⟨w.heap.size + 1, 1, none⟩) (by simp)).trans (by simp [go_sem])
  have r2 : w1.cell? ⟨w.heap.size + 1, 2, none⟩ = some (.int .i64 0) := (hb1.cell (p := ⟨w.heap.size + 1, 2, none⟩) (by simp)).trans (by simp [go_sem])
  have fr2 : w1.frozen? ⟨w.heap.size + 1, 2, none⟩ = false := (hb1.frozen (p := ⟨w.heap.size + 1, 2, none⟩) (by simp)).trans (by simp [go_sem])
  have r3 : w1.cell? ⟨w.heap.size + 1, 3, none⟩ = some (.string ⟨#[]⟩) := (hb1.cell (p := ⟨w.heap.size + 1, 3, none⟩) (by simp)).trans (by simp [go_sem])
  have fr3 : w1.frozen? ⟨w.heap.size + 1, 3, none⟩ = false := (hb1.frozen (p := ⟨w.heap.size + 1, 3, none⟩) (by simp)).trans (by simp [go_sem])
  have o0 : w1.cell? ⟨w.heap.size + 1 + 1, 0, none⟩ = some (.string ⟨#[]⟩) := (hb1.cell (p := ⟨w.heap.size + 1 + 1, 0, none⟩) (by simp)).trans (by simp [go_sem])
  have fo0 : w1.frozen? ⟨w.heap.size + 1 + 1, 0, none⟩ = false := (hb1.frozen (p := ⟨w.heap.size + 1 + 1, 0, none⟩) (by simp)).trans (by simp [go_sem])
  have o1 : w1.cell? ⟨w.heap.size + 1 + 1, 1, none⟩ = some (.int .i64 0) := (hb1.cell (p := ⟨w.heap.size + 1 + 1, 1, none⟩) (by simp)).trans (by simp [go_sem])
  have fo1 : w1.frozen? ⟨w.heap.size + 1 + 1, 1, none⟩ = false := (hb1.frozen (p := ⟨w.heap.size + 1 + 1, 1, none⟩) (by simp)).trans (by simp [go_sem])
  have o2 : w1.cell? ⟨w.heap.size + 1 + 1, 2, none⟩ = some (.int .i64 0) := (hb1.cell (p := ⟨w.heap.size + 1 + 1, 2, none⟩) (by simp)).trans (by simp [go_sem])
  have fo2 : w1.frozen? ⟨w.heap.size + 1 + 1, 2, none⟩ = false := (hb1.frozen (p := ⟨w.heap.size + 1 + 1, 2, none⟩) (by simp)).trans (by simp [go_sem])
  have o3 : w1.cell? ⟨w.heap.size + 1 + 1, 3, none⟩ = some (.string ⟨#[]⟩) := (hb1.cell (p := ⟨w.heap.size + 1 + 1, 3, none⟩) (by simp)).trans (by simp [go_sem])
  have fo3 : w1.frozen? ⟨w.heap.size + 1 + 1, 3, none⟩ = false := (hb1.frozen (p := ⟨w.heap.size + 1 + 1, 3, none⟩) (by simp)).trans (by simp [go_sem])
  clear hb1
  go_wp2
  refine bodyPost_ret (v := .agg (msgA p a b s)) (by simp [results, Try.results23, go_sem, *]) rfl ⟨rfl, ?_⟩
  repeat (refine Below.setCell ?_ (p := ⟨_, _, none⟩) (by first | (simp; done) | (simp; omega)) _)
  exact hb0

set_option maxHeartbeats 2000000 in
theorem szHead_any (p : ByteArray) (a b l : Int) (w : World) (h0 : 0 ≤ l) (hl : l ≤ 1048576) (hp : p.size ≤ 9223372036854775807) :
    Calls Try.prog 19 #[.agg (headA p a b), .int .i64 l] w fun e w' => e = .returned (.int .i64 (szS l p.size)) ∧ Below w.heap.size w w' := by
  have hb0 := below_box w (.cells (headA p a b) 39)
  have hw : IntKind.i64.wrap (l - (p.size : Int)) = l - (p.size : Int) := wrap_in (by omega) (by omega)
  by_cases h : l - (p.size : Int) < 0
  · have HV := Lib.hid (szS_no h)
    go_enter Try.func19, Try.ntmps19
    go_wp2
    go_ret
    exact ⟨by rw [HV.out]; rfl, hb0⟩
  · have HV := Lib.hid (szS_yes h)
    go_enter Try.func19, Try.ntmps19
    go_wp2
    go_ret
    exact ⟨by rw [HV.out]; rfl, hb0⟩

set_option maxHeartbeats 2000000 in
theorem headBytes_s (p : ByteArray) (a b : Int) (w : World) (hp : p.size ≤ 9223372036854775807) :
    Calls Try.prog 17 #[.agg (headA p a b)] w fun e w' => e = .returned (.string (headV p a b)) ∧ Below w.heap.size w w' := by
  have hb0 := below_box w (.cells (headA p a b) 27)
  by_cases h : HeadP p a b
  case neg =>
    have HV := Lib.hid (headV_no h)
    have H1 := Lib.hid (fun w => headOk_s p a b w false (decide_eq_false h) hp)
    clear h
    go_enter Try.func17, Try.ntmps17
    go_wp2_with fail
    refine (H1.out _).mono ?_
    rintro e w1 ⟨rfl, hb1⟩
    go_wp2
    go_ret
    exact ⟨by rw [HV.out]; rfl, hb0.trans (hb1.mono hb0.size)⟩
  have HV := Lib.hid (headV_yes h)
  have H1 := Lib.hid (fun w => headOk_s p a b w true (decide_eq_true h) hp)
  have H2 := Lib.hid (fun w => l5HeadBytes_any p a b w h)
  clear h
  go_enter Try.func17, Try.ntmps17
  go_wp2_with fail
  refine (H1.out _).mono ?_
  rintro e w1 ⟨rfl, hb1⟩
  have hS : HeadAt w.heap.size p a b w1 := HeadAt.below hb1 ⟨by simp, by simp [go_sem], by simp [go_sem], by simp [go_sem]⟩
  have hB : Below w.heap.size w w1 := hb0.trans (hb1.mono hb0.size)
  clear hb1 hb0
  have c0 := hS.2.1
  have c1 := hS.2.2.1
  have c2 := hS.2.2.2
  go_wp2_with fail
  refine (H2.out _).mono ?_
  rintro e w2 ⟨rfl, hb2⟩
  go_wp2
  go_ret
  exact ⟨by rw [HV.out]; rfl, hB.trans (hb2.mono hB.size)⟩

set_option maxHeartbeats 2000000 in
theorem szInit_any (p q : ByteArray) (a l : Int) (w : World) (h0 : 0 ≤ l) (hl : l ≤ 1048576) (hp : p.size ≤ 9223372036854775807) (hq : q.size ≤ 9223372036854775807) :
    Calls Try.prog 24 #[.agg (initA p q a), .int .i64 l] w fun e w' => e = .returned (.int .i64 (szS l (p.size + q.size))) ∧ Below w.heap.size w w' := by
  have hb0 := below_box w (.cells (initA p q a) 48)
  have hw : IntKind.i64.wrap (l - (p.size : Int)) = l - (p.size : Int) := wrap_in (by omega) (by omega)
  by_cases h : l - (p.size : Int) < 0
  · have HV : Hid (szS l (p.size + q.size) = -1) := szS_no (by omega)
    go_enter Try.func24, Try.ntmps24
    go_wp2
    go_ret
    exact ⟨by rw [HV.out]; rfl, hb0⟩
  have hw2 : IntKind.i64.wrap (l - (p.size : Int) - (q.size : Int)) = l - (p.size : Int) - (q.size : Int) := wrap_in (by omega) (by omega)
  by_cases h2 : l - (p.size : Int) - (q.size : Int) < 0
  · have HV : Hid (szS l (p.size + q.size) = -1) := szS_no (by omega)
    go_enter Try.func24, Try.ntmps24
    go_wp2
    go_ret
    exact ⟨by rw [HV.out]; rfl, hb0⟩
  · have HV : Hid (szS l (p.size + q.size) = l - (p.size : Int) - (q.size : Int)) := (szS_yes (by omega)).trans (by omega)
    go_enter Try.func24, Try.ntmps24
    go_wp2
    go_ret
    exact ⟨by rw [HV.out]; rfl, hb0⟩

set_option maxHeartbeats 2000000 in
theorem szMsg_any (p : ByteArray) (a b : Int) (s : ByteArray) (l : Int) (w : World) (h0 : 0 ≤ l) (hl : l ≤ 1048576) (hp : p.size ≤ 9223372036854775807) (hs : s.size ≤ 9223372036854775807) :
    Calls Try.prog 21 #[.agg (msgA p a b s), .int .i64 l] w fun e w' => e = .returned (.int .i64 (szS l (p.size + s.size))) ∧ Below w.heap.size w w' := by
  have hb0 := below_box w (.cells (msgA p a b s) 44)
  have H1 := Lib.hid (fun w => szHead_any p a b l w h0 hl hp)
  by_cases h : l - (p.size : Int) < 0
  · have HV : Hid (szS l (p.size + s.size) = -1) := szS_no (by omega)
    have hn : szS l p.size < 0 := by rw [szS_no h]; omega
    clear h
    generalize szS l p.size = L at *
    go_enter Try.func21, Try.ntmps21
    go_wp2_with fail
    refine (H1.out _).mono ?_
    rintro e w1 ⟨rfl, hb1⟩
    go_wp2
    go_ret
    exact ⟨by rw [HV.out]; rfl, hb0.trans (hb1.mono hb0.size)⟩
  have hn : ¬ szS l p.size < 0 := by rw [szS_yes h]; omega
  have he := szS_yes h
  have hw2 : IntKind.i64.wrap (szS l p.size - (s.size : Int)) = szS l p.size - (s.size : Int) := wrap_in (by omega) (by omega)
  by_cases h2 : szS l p.size - (s.size : Int) < 0
  · have HV : Hid (szS l (p.size + s.size) = -1) := szS_no (by omega)
    clear he h
    generalize szS l p.size = L at *
    go_enter Try.func21, Try.ntmps21
    go_wp2_with fail
    refine (H1.out _).mono ?_
    rintro e w1 ⟨rfl, hb1⟩
    have c3 : w1.cell? ⟨w.heap.size, 3, none⟩ = some (.string s) := (hb1.cell (p := ⟨w.heap.size, 3, none⟩) (by simp)).trans (by simp [go_sem])
    go_wp2
    go_ret
    exact ⟨by rw [HV.out]; rfl, hb0.trans (hb1.mono hb0.size)⟩
  · have HV : Hid (szS l (p.size + s.size) = szS l p.size - (s.size : Int)) := (szS_yes (by omega)).trans (by omega)
    clear he h
    generalize szS l p.size = L at *
    go_enter Try.func21, Try.ntmps21
    go_wp2_with fail
    refine (H1.out _).mono ?_
    rintro e w1 ⟨rfl, hb1⟩
    have c3 : w1.cell? ⟨w.heap.size, 3, none⟩ = some (.string s) := (hb1.cell (p := ⟨w.heap.size, 3, none⟩) (by simp)).trans (by simp [go_sem])
    go_wp2
    go_ret
    exact ⟨by rw [HV.out]; rfl, hb0.trans (hb1.mono hb0.size)⟩


end Go.Proofs.Ytimkcbhebkdiiaa
