/- The laws' own copies of envelopes, and their counts of bytes. -/
import Derived.Test.YtmekpinhhmknnaaDoorWire5
import Derived.Test.YtmekpinhhmknnaaDoorWireL
namespace Go.Proofs.YtmekpinhhmknnaaDoor
open Go.RowKit Go.My Go.Lib
set_option linter.unusedVariables false

abbrev zeroE : Array Value := #[.int .i64 0, .int .i64 0, .bool false, .string ⟨#[]⟩, .string ⟨#[]⟩, .int .i64 0, .string ⟨#[]⟩, .int .i64 0, .int .i64 0, .string ⟨#[]⟩]

set_option maxHeartbeats 4000000 in
theorem toEnv_any (f t : Int) (z : Bool) (p q : ByteArray) (o : Int) (u : ByteArray) (a b : Int) (s : ByteArray) (w : World) :
    Calls Tryd.prog 14 #[.agg (envA f t z p q o u a b s)] w fun e w' => e = .returned (.agg (envA f t z p q o u a b s)) ∧ Below w.heap.size w w' := by
  go_enter Tryd.func14, Tryd.ntmps14
  go_wp2_with fail
  refine (toInit_any p q o _).mono ?_
  rintro e w1 ⟨rfl, hb1⟩
  have e1 : (w.alloc (.cells (envA f t z p q o u a b s) 36)).heap.size = w.heap.size + 1 := by simp
  have e2 : ((w.alloc (.cells (envA f t z p q o u a b s) 36)).alloc (.cells zeroE 44)).heap.size = w.heap.size + 1 + 1 := by simp
  have x1 : BlkAt w.heap.size (envA f t z p q o u a b s) 36 w1 := BlkAt.below hb1 (((BlkAt.box _ _ _).past _).past _)
  have r1 : BlkAt (w.heap.size + 1) zeroE 44 w1 := BlkAt.below hb1 (BlkAt.past (by rw [← e1]; exact BlkAt.box _ _ _) _)
  have o1 : BlkAt (w.heap.size + 1 + 1) #[.int .i64 f, .int .i64 t, .bool z, .string ⟨#[]⟩, .string ⟨#[]⟩, .int .i64 0, .string ⟨#[]⟩, .int .i64 0, .int .i64 0, .string ⟨#[]⟩] 44 w1 := BlkAt.below hb1 (by rw [← e2]; exact BlkAt.box _ _ _)
  have hB : Below w.heap.size w w1 := (((below_box w _).alloc (by simp) _).alloc (by simp; omega) _).trans (hb1.mono (by simp; omega))
  clear hb1 e1 e2
  have x6 := x1.cell (j := 6) rfl
  have x7 := x1.cell (j := 7) rfl
  have x8 := x1.cell (j := 8) rfl
  have x9 := x1.cell (j := 9) rfl
  have y3 := o1.cell (j := 3) rfl
  have y4 := o1.cell (j := 4) rfl
  have y5 := o1.cell (j := 5) rfl
  have v3 := o1.froz (j := 3)
  have v4 := o1.froz (j := 4)
  have v5 := o1.froz (j := 5)
  go_wp2_with fail
  refine (toMsg_any u a b s _).mono ?_
  rintro e w2 ⟨rfl, hb2⟩
  have r2 : BlkAt (w.heap.size + 1) zeroE 44 w2 := BlkAt.below hb2 (((r1.other 3 _ (by omega)).other 4 _ (by omega)).other 5 _ (by omega))
  have o2 : BlkAt (w.heap.size + 1 + 1) #[.int .i64 f, .int .i64 t, .bool z, .string p, .string q, .int .i64 o, .string ⟨#[]⟩, .int .i64 0, .int .i64 0, .string ⟨#[]⟩] 44 w2 := BlkAt.below hb2 (((o1.set 3 _).set 4 _).set 5 _)
  have hB2 : Below w.heap.size w w2 := Below.trans (Below.setCell (Below.setCell (Below.setCell hB (p := ⟨_, _, none⟩) (by simp; omega) _) (p := ⟨_, _, none⟩) (by simp; omega) _) (p := ⟨_, _, none⟩) (by simp; omega) _) (hb2.mono (by have := hB.size; simp; omega))
  clear hb2 hB x1 r1 o1 x6 x7 x8 x9 y3 y4 y5 v3 v4 v5
  have x0 := r2.cell (j := 0) rfl
  have x1 := r2.cell (j := 1) rfl
  have x2 := r2.cell (j := 2) rfl
  have x3 := r2.cell (j := 3) rfl
  have x4 := r2.cell (j := 4) rfl
  have x5 := r2.cell (j := 5) rfl
  have x6 := r2.cell (j := 6) rfl
  have x7 := r2.cell (j := 7) rfl
  have x8 := r2.cell (j := 8) rfl
  have x9 := r2.cell (j := 9) rfl
  have v0 := r2.froz (j := 0)
  have v1 := r2.froz (j := 1)
  have v2 := r2.froz (j := 2)
  have v3 := r2.froz (j := 3)
  have v4 := r2.froz (j := 4)
  have v5 := r2.froz (j := 5)
  have v6 := r2.froz (j := 6)
  have v7 := r2.froz (j := 7)
  have v8 := r2.froz (j := 8)
  have v9 := r2.froz (j := 9)
  have y0 := o2.cell (j := 0) rfl
  have y1 := o2.cell (j := 1) rfl
  have y2 := o2.cell (j := 2) rfl
  have y3 := o2.cell (j := 3) rfl
  have y4 := o2.cell (j := 4) rfl
  have y5 := o2.cell (j := 5) rfl
  have y6 := o2.cell (j := 6) rfl
  have y7 := o2.cell (j := 7) rfl
  have y8 := o2.cell (j := 8) rfl
  have y9 := o2.cell (j := 9) rfl
  have g6 := o2.froz (j := 6)
  have g7 := o2.froz (j := 7)
  have g8 := o2.froz (j := 8)
  have g9 := o2.froz (j := 9)
  clear r2 o2
  go_wp2
  refine bodyPost_ret (v := .agg (envA f t z p q o u a b s)) (by simp [results, Tryd.results14, go_sem, *]) rfl ⟨rfl, ?_⟩
  repeat (refine Below.setCell ?_ (p := ⟨_, _, none⟩) (by first | (simp; done) | (simp; omega)) _)
  exact hB2

set_option maxHeartbeats 2000000 in
theorem szEnv_any (f t : Int) (z : Bool) (p q : ByteArray) (o : Int) (u : ByteArray) (a b : Int) (s : ByteArray) (l : Int) (w : World) (h0 : 0 ≤ l) (hl : l ≤ 1048576) (hp : p.size ≤ 9223372036854775807) (hq : q.size ≤ 9223372036854775807) (hu : u.size ≤ 9223372036854775807) (hs : s.size ≤ 9223372036854775807) :
    Calls Tryd.prog 12 #[.agg (envA f t z p q o u a b s), .int .i64 l] w fun e w' => e = .returned (.int .i64 (szS l (p.size + q.size + (u.size + s.size)))) ∧ Below w.heap.size w w' := by
  have hb0 := below_box w (.cells (envA f t z p q o u a b s) 36)
  have hS := BlkAt.box w (envA f t z p q o u a b s) 36
  have H1 := Lib.hid (fun w => szInit_any p q o l w h0 hl hp hq)
  by_cases h : l - ((p.size + q.size : Nat) : Int) < 0
  · have HV : Hid (szS l (p.size + q.size + (u.size + s.size)) = -1) := szS_no (by omega)
    have hn : szS l (p.size + q.size) < 0 := by rw [szS_no h]; omega
    clear h
    generalize szS l (p.size + q.size) = L at *
    go_enter Tryd.func12, Tryd.ntmps12
    go_wp2_with fail
    refine (H1.out _).mono ?_
    rintro e w1 ⟨rfl, hb1⟩
    go_wp2
    go_ret
    exact ⟨by rw [HV.out]; rfl, hb0.trans (hb1.mono hb0.size)⟩
  have hn : ¬ szS l (p.size + q.size) < 0 := by rw [szS_yes h]; omega
  have he := szS_yes h
  have H2 := Lib.hid (fun w => szMsg_any u a b s (szS l (p.size + q.size)) w (by omega) (by omega) hu hs)
  by_cases h2 : szS l (p.size + q.size) - ((u.size + s.size : Nat) : Int) < 0
  · have HV : Hid (szS l (p.size + q.size + (u.size + s.size)) = -1) := szS_no (by omega)
    have hn2 : szS (szS l (p.size + q.size)) (u.size + s.size) < 0 := by rw [szS_no h2]; omega
    clear he h h2
    generalize szS (szS l (p.size + q.size)) (u.size + s.size) = M at *
    generalize szS l (p.size + q.size) = L at *
    go_enter Tryd.func12, Tryd.ntmps12
    go_wp2_with fail
    refine (H1.out _).mono ?_
    rintro e w1 ⟨rfl, hb1⟩
    have hS := BlkAt.below hb1 hS
    have c6 := hS.cell (j := 6) rfl
    have c7 := hS.cell (j := 7) rfl
    have c8 := hS.cell (j := 8) rfl
    have c9 := hS.cell (j := 9) rfl
    go_wp2_with fail
    refine (H2.out _).mono ?_
    rintro e w2 ⟨rfl, hb2⟩
    go_wp2
    go_ret
    exact ⟨by rw [HV.out]; rfl, (hb0.trans (hb1.mono hb0.size)).trans (hb2.mono (Nat.le_trans hb0.size hb1.size))⟩
  · have HV : Hid (szS l (p.size + q.size + (u.size + s.size)) = szS (szS l (p.size + q.size)) (u.size + s.size)) := by
      show _ = _
      rw [szS_yes h2, szS_yes (by omega)]
      omega
    have hn2 : ¬ szS (szS l (p.size + q.size)) (u.size + s.size) < 0 := by rw [szS_yes h2]; omega
    clear he h h2
    generalize szS (szS l (p.size + q.size)) (u.size + s.size) = M at *
    generalize szS l (p.size + q.size) = L at *
    go_enter Tryd.func12, Tryd.ntmps12
    go_wp2_with fail
    refine (H1.out _).mono ?_
    rintro e w1 ⟨rfl, hb1⟩
    have hS := BlkAt.below hb1 hS
    have c6 := hS.cell (j := 6) rfl
    have c7 := hS.cell (j := 7) rfl
    have c8 := hS.cell (j := 8) rfl
    have c9 := hS.cell (j := 9) rfl
    go_wp2_with fail
    refine (H2.out _).mono ?_
    rintro e w2 ⟨rfl, hb2⟩
    go_wp2
    go_ret
    exact ⟨by rw [HV.out]; rfl, (hb0.trans (hb1.mono hb0.size)).trans (hb2.mono (Nat.le_trans hb0.size hb1.size))⟩

end Go.Proofs.YtmekpinhhmknnaaDoor
