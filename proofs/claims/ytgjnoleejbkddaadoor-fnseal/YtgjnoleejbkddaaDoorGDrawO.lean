/- What is drawn of keys, associated data and data, and of seals: bounds alone. -/
import Derived.Test.YtgjnoleejbkddaaDoorGDrawS
import Derived.Test.YtgjnoleejbkddaaDoorGHurt
import Derived.Test.YtgjnoleejbkddaaDoorGSea3
namespace Go.Proofs.YtgjnoleejbkddaaDoor
open Go.RowKit Go.My Go.Lib
set_option linter.unusedVariables false
set_option maxRecDepth 100000

def DrawKAD (B : Nat) (w : World) (e : Ending) (w' : World) : Prop := ∃ k ad d : ByteArray, e = .returned (.tuple #[.string k, .string ad, .string d]) ∧ (k.size ≤ 40 ∧ ad.size ≤ 303 ∧ d.size ≤ 434) ∧ Below B w w'

set_option maxHeartbeats 4000000 in
theorem draw_seal (B : Nat) (a : Option Addr) (len cap : Nat) (w : World) (hB : B ≤ w.heap.size) (h : RdCode B w a len) : Calls Tryd.prog 8 #[.slice a len cap] w (fun e w' => ∃ k ad d : ByteArray, e = .returned (.tuple #[.string k, .string ad, .string d]) ∧ (k.size ≤ 40 ∧ ad.size ≤ 302 ∧ d.size ≤ 402) ∧ Below B w w') := by
  go_enter Tryd.func8, Tryd.ntmps8
  go_wp2_with fail
  refine (open_any B a len cap _ hB h).mono ?_
  rintro e w1 ⟨rfl, hR1, hg1⟩
  have hb1 := below_none hg1 hB
  clear hg1
  generalize w.heap.size = g at *
  go_wp2_with fail
  refine (key_any B _ _ hR1).mono ?_
  rintro e w2 ⟨k, rfl, hk, hR2, hg2⟩
  have hb2 := hb1.trans (grown_below hg2 hR1.1 hR1.2.1)
  clear hb1 hg2 hR1
  go_wp2_with fail
  refine (below_any B _ 24 _ hR2 (by omega) (by omega)).mono ?_
  rintro e w3 ⟨n, rfl, hn0, hn1, hR3, hg3⟩
  have hb3 := hb2.trans (grown_below hg3 hR2.1 hR2.2.1)
  clear hb2 hg3 hR2
  by_cases n0 : n = 0
  · subst n0
    have C0 := Lib.hid (below_any B g 3 w3.drew hR3.drew (by omega) (by omega))
    have HB := Lib.hid hb3
    have HR3 := Lib.hid hR3
    clear hb3 hR3
    go_wp2_with fail
    go_region_with (first
      | (go_at_call 20; (refine C0.out.mono ?_; rintro e w4 ⟨m, rfl, hm0, hm1, hR4, hg4⟩; obtain ⟨q, rfl⟩ : ∃ q : Nat, m = (q : Int) := ⟨m.toNat, (by omega)⟩; have hqi : (q : Int) < 3 := (by omega); have hq : q < 3 := (by omega); have hww : IntKind.i64.wrap (299 + (q : Int)) = 299 + (q : Int) := IntWalk.i64_in _ (by omega); have hmk := (fun W => Go.run_make_row' (P := Tryd.prog) 25 5 (.int .u8 0) 1 Tryd.underlying25 info_u8t rfl .i64 .i64 (299 + q) (by omega) (by omega) W); simp only [show ((299 + q : Nat) : Int) = 299 + (q : Int) by omega] at hmk; have HCV := Lib.hid (fun (W w' : World) (hh : w'.heap[W.heap.size]? = some (.cells (madeCells #[.int .u8 0] (299 + q)) 5 (0, 0))) => conv_madeT W w' (299 + q) (by omega) hh); have hcv0 := (fun W : World => HCV.out W (W.alloc (.cells (madeCells #[.int .u8 0] (299 + q)) 5)) (heap_alloc_new W _)); have hb4 := HB.out.trans (grown_below (drew_grown hg4) HR3.out.1 HR3.out.2.1); have HR4 := Lib.hid hR4; have HB4 := Lib.hid hb4; clear hg4 hm0 hm1 hR4 hb4))
      | (go_at_call 21; (refine (bytes_any B g 40 _ (HR4.out.alloc _) (by omega)).mono ?_; rintro e w5 ⟨s, rfl, hs, hR5, hg5⟩; have hcv1 := HCV.out w4 w5 ((hg5.block w4.heap.size (by simp) (by have := HR4.out.lt; simp; omega)).trans (heap_alloc_new w4 _)); have hb5 := (HB4.out.alloc HR4.out.2.1 _).trans (grown_below hg5 HR4.out.1 (by have := HR4.out.2.1; simp; omega)); clear hg5))
      | (go_at_call 21; (refine (bytes_any B g 40 _ HR4.out (by omega)).mono ?_; rintro e w5 ⟨s, rfl, hs, hR5, hg5⟩; have hb5 := HB4.out.trans (grown_below hg5 HR4.out.1 HR4.out.2.1); clear hg5)))
    all_goals (try go_wp2)
    all_goals
      go_ret3
      exact ⟨k, _, s, rfl, ⟨hk, by rw [str_size, List.length_replicate]; omega, by omega⟩, by first | exact hb5 | exact hb5.alloc hR5.2.1 _⟩
  have e0 : (n == 0) = false := by simpa using n0
  by_cases n1 : n = 1
  · subst n1
    have C0 := Lib.hid (bytes_any B g 20 w3.drew hR3.drew (by omega))
    have HB := Lib.hid hb3
    have HR3 := Lib.hid hR3
    clear hb3 hR3
    go_wp2_with fail
    go_region_with (first
      | (go_at_call 21; (refine C0.out.mono ?_; rintro e w4 ⟨s, rfl, hs, hR4, hg4⟩; have hb4 := HB.out.trans (grown_below (drew_grown hg4) HR3.out.1 HR3.out.2.1); have HR4 := Lib.hid hR4; have HB4 := Lib.hid hb4; clear hg4 hR4 hb4))
      | (go_at_call 20; (refine (below_any B g 3 w4 HR4.out (by omega) (by omega)).mono ?_; rintro e w5 ⟨m, rfl, hm0, hm1, hR5, hg5⟩; obtain ⟨q, rfl⟩ : ∃ q : Nat, m = (q : Int) := ⟨m.toNat, (by omega)⟩; have hqi : (q : Int) < 3 := (by omega); have hq : q < 3 := (by omega); have hww : IntKind.i64.wrap (399 + (q : Int)) = 399 + (q : Int) := IntWalk.i64_in _ (by omega); have hmk := (fun W => Go.run_make_row' (P := Tryd.prog) 25 5 (.int .u8 0) 1 Tryd.underlying25 info_u8t rfl .i64 .i64 (399 + q) (by omega) (by omega) W); simp only [show ((399 + q : Nat) : Int) = 399 + (q : Int) by omega] at hmk; have hcv0 := (fun W : World => conv_madeT W (W.alloc (.cells (madeCells #[.int .u8 0] (399 + q)) 5)) (399 + q) (by omega) (heap_alloc_new W _)); have hb5 := HB4.out.trans (grown_below hg5 HR4.out.1 HR4.out.2.1); have hb6 : ∀ o, Below B w (w5.alloc o) := (fun o => hb5.alloc hR5.2.1 o); clear hg5 hm0 hm1)))
    all_goals (try go_wp2)
    all_goals
      go_ret3
      exact ⟨k, s, _, rfl, ⟨hk, by omega, by rw [str_size, List.length_replicate]; omega⟩, hb6 _⟩
  have e1 : (n == 1) = false := by simpa using n1
  go_wp2_with fail
  refine (bytes_any B g 20 _ hR3 (by omega)).mono ?_
  rintro e w4 ⟨s, rfl, hs, hR4, hg4⟩
  have hb4 := hb3.trans (grown_below hg4 hR3.1 hR3.2.1)
  clear hb3 hg4 hR3
  go_wp2_with fail
  refine (bytes_any B g 60 _ hR4 (by omega)).mono ?_
  rintro e w5 ⟨d, rfl, hd, hR5, hg5⟩
  have hb5 := hb4.trans (grown_below hg5 hR4.1 hR4.2.1)
  clear hb4 hg5 hR4
  go_wp2
  go_ret3
  exact ⟨k, s, d, rfl, ⟨hk, by omega, by omega⟩, hb5⟩

set_option maxHeartbeats 4000000 in
theorem draw_openSeal (B : Nat) (a : Option Addr) (len cap : Nat) (w : World) (hB : B ≤ w.heap.size) (h : RdCode B w a len) : Calls Tryd.prog 10 #[.slice a len cap] w (DrawKAD B w) := by
  go_enter Tryd.func10, Tryd.ntmps10
  go_wp2_with fail
  refine (open_any B a len cap _ hB h).mono ?_
  rintro e w1 ⟨rfl, hR1, hg1⟩
  have hb1 := below_none hg1 hB
  clear hg1
  generalize w.heap.size = g at *
  go_wp2_with fail
  refine (draw_seal w1.heap.size a len cap w1 (Nat.le_refl _) ((h.below hb1).widerS hR1.2.1)).mono ?_
  rintro e w2 ⟨k, ad, d, rfl, ⟨hk, had, hd⟩, hbx⟩
  have hR2 := hR1.pastS hbx
  have hb2 := hb1.trans (hbx.mono hR1.2.1)
  clear hbx hb1 hR1
  go_wp2_with fail
  refine (seal_s k ad d _ (by omega) (by omega) (by omega)).mono ?_
  rintro e w3 ⟨rfl, hbx⟩
  have hR3 := hR2.pastS hbx
  have hb3 := hb2.trans (hbx.mono hR2.2.1)
  have hz := seV_size k ad d
  generalize seV k ad d = s at *
  clear hbx hb2 hR2
  go_wp2_with fail
  refine (below_any B _ 6 _ hR3 (by omega) (by omega)).mono ?_
  rintro e w4 ⟨n, rfl, hn0, hn1, hR4, hg4⟩
  have hb4 := hb3.trans (grown_below hg4 hR3.1 hR3.2.1)
  clear hb3 hg4 hR3
  by_cases n0 : n = 0
  · subst n0
    go_wp2_with fail
    refine (hurt_any B _ s _ hR4 (by omega)).mono ?_
    rintro e w5 ⟨t, rfl, ht, hR5, hg5⟩
    have hb5 := hb4.trans (grown_below hg5 hR4.1 hR4.2.1)
    go_wp2
    go_ret3
    exact ⟨k, ad, t, rfl, ⟨hk, by omega, by omega⟩, hb5⟩
  have e0 : (n == 0) = false := by simpa using n0
  by_cases n1 : n = 1
  · subst n1
    have hss : ¬ 9223372036854775807 < ad.size + 1 := by omega
    go_wp2
    go_ret3
    exact ⟨k, _, s, rfl, ⟨hk, by rw [ByteArray.size_append]; show ad.size + 1 ≤ 303; omega, by omega⟩, hb4⟩
  have e1 : (n == 1) = false := by simpa using n1
  by_cases n2 : n = 2
  · subst n2
    have hw1 : IntKind.i64.wrap ((s.size : Int) + 1) = (s.size : Int) + 1 := IntWalk.i64_in _ (by omega)
    have C0 := Lib.hid (below_any B g ((s.size : Int) + 1) w4.drew hR4.drew (by omega) (by omega))
    have HB := Lib.hid hb4
    have HR4 := Lib.hid hR4
    clear hb4 hR4
    go_wp2_with fail
    go_region_with (first
      | (go_at_call 20; (refine C0.out.mono ?_; rintro e w5 ⟨m, rfl, hm0, hm1, hR5, hg5⟩; obtain ⟨q, rfl⟩ : ∃ q : Nat, m = (q : Int) := ⟨m.toNat, (by omega)⟩; have hqi : (q : Int) ≤ (s.size : Int) := (by omega); have hq0 : (0 : Int) ≤ (q : Int) := (by omega); have hb5 := HB.out.trans (grown_below (drew_grown hg5) HR4.out.1 HR4.out.2.1); clear hg5 hm0 hm1)))
    all_goals (try go_wp2)
    all_goals
      go_ret3
      exact ⟨k, ad, _, rfl, ⟨hk, by omega, by rw [ByteArray.size_extract]; omega⟩, hb5⟩
  have e2 : (n == 2) = false := by simpa using n2
  go_wp2
  go_ret3
  exact ⟨k, ad, s, rfl, ⟨hk, by omega, by omega⟩, hb4⟩

end Go.Proofs.YtgjnoleejbkddaaDoor
