/- The laws' own copies of heads, Inits and messages, and their counts of bytes. -/
import Derived.Test.YtmekpinhhmknnaaDoorWire3
namespace Go.Proofs.YtmekpinhhmknnaaDoor
open Go.RowKit Go.My Go.Lib
set_option linter.unusedVariables false

set_option maxHeartbeats 2000000 in
theorem toHead_any (p : ByteArray) (a b : Int) (w : World) :
    Calls Tryd.prog 57 #[.agg (headA p a b)] w fun e w' => e = .returned (.agg (headA p a b)) ∧ Below w.heap.size w w' := by
  go_enter Tryd.func57, Tryd.ntmps57
  go_wp2
  refine bodyPost_ret (v := .agg (headA p a b)) (by simp [results, Tryd.results57, go_sem]) rfl ⟨rfl, ?_⟩
  repeat (refine Below.setCell ?_ (p := ⟨_, _, none⟩) (by first | (simp; done) | (simp; omega)) _)
  repeat (refine Below.alloc ?_ (by first | (simp; done) | (simp; omega)) _)
  exact Below.refl _ _

set_option maxHeartbeats 2000000 in
theorem toInit_any (p q : ByteArray) (a : Int) (w : World) :
    Calls Tryd.prog 34 #[.agg (initA p q a)] w fun e w' => e = .returned (.agg (initA p q a)) ∧ Below w.heap.size w w' := by
  go_enter Tryd.func34, Tryd.ntmps34
  go_wp2
  refine bodyPost_ret (v := .agg (initA p q a)) (by simp [results, Tryd.results34, go_sem]) rfl ⟨rfl, ?_⟩
  repeat (refine Below.setCell ?_ (p := ⟨_, _, none⟩) (by first | (simp; done) | (simp; omega)) _)
  repeat (refine Below.alloc ?_ (by first | (simp; done) | (simp; omega)) _)
  exact Below.refl _ _

set_option maxHeartbeats 2000000 in
theorem toMsg_any (p : ByteArray) (a b : Int) (s : ByteArray) (w : World) :
    Calls Tryd.prog 35 #[.agg (msgA p a b s)] w fun e w' => e = .returned (.agg (msgA p a b s)) ∧ Below w.heap.size w w' := by
  go_enter Tryd.func35, Tryd.ntmps35
  go_wp2_with fail
  refine (toHead_any p a b _).mono ?_
  rintro e w1 ⟨rfl, hb1⟩
  have hb0 : Below w.heap.size w w1 := (((below_box w _).alloc (by simp) _).alloc (by simp; omega) _).trans (hb1.mono (by simp; omega))
  have q3 : w1.cell? ⟨w.heap.size, 3, none⟩ = some (.string s) := (hb1.cell (p := ⟨w.heap.size, 3, none⟩) (by simp; omega)).trans (by simp [go_sem])
  have r0 : w1.cell? ⟨w.heap.size + 1, 0, none⟩ = some (.string ⟨#[]⟩) := (hb1.cell (p := ⟨w.heap.size + 1, 0, none⟩) (by simp)).trans (by simp [go_sem])
  have fr0 : w1.frozen? ⟨w.heap.size + 1, 0, none⟩ = false := (hb1.frozen (p := ⟨w.heap.size + 1, 0, none⟩) (by simp)).trans (by simp [go_sem])
  have r1 : w1.cell? ⟨w.heap.size + 1, 1, none⟩ = some (.int .i64 0) := (hb1.cell (p := ⟨w.heap.size + 1, 1, none⟩) (by simp)).trans (by simp [go_sem])
  have fr1 : w1.frozen? ⟨w.heap.size + 1, 1, none⟩ = false := (hb1.frozen (p := ⟨w.heap.size + 1, 1, none⟩) (by simp)).trans (by simp [go_sem])
  have r2 : w1.cell? ⟨w.heap.size + 1, 2, none⟩ = some (.int .i64 0) := (hb1.cell (p := ⟨w.heap.size + 1, 2, none⟩) (by simp)).trans (by simp [go_sem])
  have fr2 : w1.frozen? ⟨w.heap.size + 1, 2, none⟩ = false := (hb1.frozen (p := ⟨w.heap.size + 1, 2, none⟩) (by simp)).trans (by simp [go_sem])
  have r3 : w1.cell? ⟨w.heap.size + 1, 3, none⟩ = some (.string ⟨#[]⟩) := (hb1.cell (p := ⟨w.heap.size + 1, 3, none⟩) (by simp)).trans (by simp [go_sem])
  have fr3 : w1.frozen? ⟨w.heap.size + 1, 3, none⟩ = false := (hb1.frozen (p := ⟨w.heap.size + 1, 3, none⟩) (by simp)).trans (by simp [go_sem])
  have o0 : w1.cell? ⟨w.heap.size + 1 + 1, 0, none⟩ = some (.string ⟨#[]⟩) := (hb1.cell (p := ⟨w.heap.size + 1 + 1, 0, none⟩) (by simp)).trans (by simp [go_sem])
  have fo0 : w1.frozen? ⟨w.heap.size + 1 + 1, 0, none⟩ = false := (hb1.frozen (p := ⟨w.heap.size + 1 + 1, 0, none⟩) (by simp)).trans (by simp [go_sem])
  have o1 : w1.cell? ⟨w.heap.size + 1 + 1, 1, none⟩ = some (.int .i64 0) := (hb1.cell (p := ⟨w.heap.size + 1 + 1, 1, none⟩) (by simp)).trans (by simp [go_sem])
  have fo1 : w1.frozen? ⟨w.heap.size + 1 + 1, 1, none⟩ = false := (hb1.frozen (p := ⟨w.heap.size + 1 + 1, 1, none⟩) (by simp)).trans (by simp [go_sem])
  have o2 : w1.cell? ⟨w.heap.size + 1 + 1, 2, none⟩ = some (.int .i64 0) := (hb1.cell (p := ⟨w.heap.size + 1 + 1, 2, none⟩) (by simp)).trans (by simp [go_sem])
  have fo2 : w1.frozen? ⟨w.heap.size + 1 + 1, 2, none⟩ = false := (hb1.frozen (p := ⟨w.heap.size + 1 + 1, 2, none⟩) (by simp)).trans (by simp [go_sem])
  have o3 : w1.cell? ⟨w.heap.size + 1 + 1, 3, none⟩ = some (.string ⟨#[]⟩) := (hb1.cell (p := ⟨w.heap.size + 1 + 1, 3, none⟩) (by simp)).trans (by simp [go_sem])
  have fo3 : w1.frozen? ⟨w.heap.size + 1 + 1, 3, none⟩ = false := (hb1.frozen (p := ⟨w.heap.size + 1 + 1, 3, none⟩) (by simp)).trans (by simp [go_sem])
  clear hb1
  go_wp2
  refine bodyPost_ret (v := .agg (msgA p a b s)) (by simp [results, Tryd.results35, go_sem, *]) rfl ⟨rfl, ?_⟩
  repeat (refine Below.setCell ?_ (p := ⟨_, _, none⟩) (by first | (simp; done) | (simp; omega)) _)
  exact hb0

set_option maxHeartbeats 2000000 in
theorem szHead_any (p : ByteArray) (a b l : Int) (w : World) (h0 : 0 ≤ l) (hl : l ≤ 1048576) (hp : p.size ≤ 9223372036854775807) :
    Calls Tryd.prog 54 #[.agg (headA p a b), .int .i64 l] w fun e w' => e = .returned (.int .i64 (szS l p.size)) ∧ Below w.heap.size w w' := by
  have hb0 := below_box w (.cells (headA p a b) 32)
  have hw : IntKind.i64.wrap (l - (p.size : Int)) = l - (p.size : Int) := wrap_in (by omega) (by omega)
  by_cases h : l - (p.size : Int) < 0
  · have HV := Lib.hid (szS_no h)
    go_enter Tryd.func54, Tryd.ntmps54
    go_wp2
    go_ret
    exact ⟨by rw [HV.out]; rfl, hb0⟩
  · have HV := Lib.hid (szS_yes h)
    go_enter Tryd.func54, Tryd.ntmps54
    go_wp2
    go_ret
    exact ⟨by rw [HV.out]; rfl, hb0⟩

set_option maxHeartbeats 2000000 in
theorem szInit_any (p q : ByteArray) (a l : Int) (w : World) (h0 : 0 ≤ l) (hl : l ≤ 1048576) (hp : p.size ≤ 9223372036854775807) (hq : q.size ≤ 9223372036854775807) :
    Calls Tryd.prog 31 #[.agg (initA p q a), .int .i64 l] w fun e w' => e = .returned (.int .i64 (szS l (p.size + q.size))) ∧ Below w.heap.size w w' := by
  have hb0 := below_box w (.cells (initA p q a) 30)
  have hw : IntKind.i64.wrap (l - (p.size : Int)) = l - (p.size : Int) := wrap_in (by omega) (by omega)
  by_cases h : l - (p.size : Int) < 0
  · have HV : Hid (szS l (p.size + q.size) = -1) := szS_no (by omega)
    go_enter Tryd.func31, Tryd.ntmps31
    go_wp2
    go_ret
    exact ⟨by rw [HV.out]; rfl, hb0⟩
  have hw2 : IntKind.i64.wrap (l - (p.size : Int) - (q.size : Int)) = l - (p.size : Int) - (q.size : Int) := wrap_in (by omega) (by omega)
  by_cases h2 : l - (p.size : Int) - (q.size : Int) < 0
  · have HV : Hid (szS l (p.size + q.size) = -1) := szS_no (by omega)
    go_enter Tryd.func31, Tryd.ntmps31
    go_wp2
    go_ret
    exact ⟨by rw [HV.out]; rfl, hb0⟩
  · have HV : Hid (szS l (p.size + q.size) = l - (p.size : Int) - (q.size : Int)) := (szS_yes (by omega)).trans (by omega)
    go_enter Tryd.func31, Tryd.ntmps31
    go_wp2
    go_ret
    exact ⟨by rw [HV.out]; rfl, hb0⟩

set_option maxHeartbeats 2000000 in
theorem szMsg_any (p : ByteArray) (a b : Int) (s : ByteArray) (l : Int) (w : World) (h0 : 0 ≤ l) (hl : l ≤ 1048576) (hp : p.size ≤ 9223372036854775807) (hs : s.size ≤ 9223372036854775807) :
    Calls Tryd.prog 32 #[.agg (msgA p a b s), .int .i64 l] w fun e w' => e = .returned (.int .i64 (szS l (p.size + s.size))) ∧ Below w.heap.size w w' := by
  have hb0 := below_box w (.cells (msgA p a b s) 34)
  have H1 := Lib.hid (fun w => szHead_any p a b l w h0 hl hp)
  by_cases h : l - (p.size : Int) < 0
  · have HV : Hid (szS l (p.size + s.size) = -1) := szS_no (by omega)
    have hn : szS l p.size < 0 := by rw [szS_no h]; omega
    clear h
    generalize szS l p.size = L at *
    go_enter Tryd.func32, Tryd.ntmps32
    go_wp2_with fail
    refine (H1.out _).mono ?_
    rintro e w1 ⟨rfl, hb1⟩
    go_wp2
    go_ret
    exact ⟨by rw [HV.out]; rfl, hb0.trans (hb1.mono hb0.size)⟩
  have hn : ¬ szS l p.size < 0 := by rw [szS_yes h]; omega
  have he := szS_yes h
  have hw2 : IntKind.i64.wrap (szS l p.size - (s.size : Int)) = szS l p.size - (s.size : Int) := wrap_in (by omega) (by omega)
  by_cases h2 : szS l p.size - (s.size : Int) < 0
  · have HV : Hid (szS l (p.size + s.size) = -1) := szS_no (by omega)
    clear he h
    generalize szS l p.size = L at *
    go_enter Tryd.func32, Tryd.ntmps32
    go_wp2_with fail
    refine (H1.out _).mono ?_
    rintro e w1 ⟨rfl, hb1⟩
    have c3 : w1.cell? ⟨w.heap.size, 3, none⟩ = some (.string s) := (hb1.cell (p := ⟨w.heap.size, 3, none⟩) (by simp)).trans (by simp [go_sem])
    go_wp2
    go_ret
    exact ⟨by rw [HV.out]; rfl, hb0.trans (hb1.mono hb0.size)⟩
  · have HV : Hid (szS l (p.size + s.size) = szS l p.size - (s.size : Int)) := (szS_yes (by omega)).trans (by omega)
    clear he h
    generalize szS l p.size = L at *
    go_enter Tryd.func32, Tryd.ntmps32
    go_wp2_with fail
    refine (H1.out _).mono ?_
    rintro e w1 ⟨rfl, hb1⟩
    have c3 : w1.cell? ⟨w.heap.size, 3, none⟩ = some (.string s) := (hb1.cell (p := ⟨w.heap.size, 3, none⟩) (by simp)).trans (by simp [go_sem])
    go_wp2
    go_ret
    exact ⟨by rw [HV.out]; rfl, hb0.trans (hb1.mono hb0.size)⟩


end Go.Proofs.YtmekpinhhmknnaaDoor
