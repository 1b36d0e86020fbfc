/- The draws of texts: DrawHmac, DrawExtract, DrawExpand, DrawHkdf. -/
import Derived.Test.YtfbcmckepdjdkaaDoorGM1
import Derived.Test.YtfbcmckepdjdkaaDoorGM2
import Derived.Deep.RegionWith
namespace Go.Proofs.YtfbcmckepdjdkaaDoor
open Go.RowKit Go.My Go.Lib
set_option linter.unusedVariables false

theorem RdCode.wider {B C : Nat} {w : World} {a : Option Addr} {len : Nat} (h : RdCode B w a len) (hc : B ≤ C) : RdCode C w a len := by
  obtain ⟨h1, h2⟩ := h
  refine ⟨h1, ?_⟩
  rcases h2 with h2 | ⟨b, off, ha, hb, hx⟩
  · exact .inl h2
  · exact .inr ⟨b, off, ha, by omega, hx⟩
theorem grown_of_below {w w' : World} (h : Below w.heap.size w w') : w.grownBy w' none := ⟨h.os, h.tape, h.output, h.size, fun k hk _ => h.block k hk⟩
theorem Rd.past {B g : Nat} {w w' : World} (h : Rd B w g) (hb : Below w.heap.size w w') : Rd B w' g := h.kept (grown_of_below hb) (by simp) (by simp)
def DrawSSI (N B : Nat) (w : World) (e : Ending) (w' : World) : Prop := ∃ (s t : ByteArray) (n : Int), e = .returned (.tuple #[.string s, .string t, .int .i64 n]) ∧ s.size ≤ N ∧ t.size ≤ N ∧ Below B w w'
def DrawSSSI (N B : Nat) (w : World) (e : Ending) (w' : World) : Prop := ∃ (s t u : ByteArray) (n : Int), e = .returned (.tuple #[.string s, .string t, .string u, .int .i64 n]) ∧ s.size ≤ N ∧ t.size ≤ N ∧ u.size ≤ N ∧ Below B w w'

set_option maxRecDepth 100000 in
set_option maxHeartbeats 4000000 in
theorem draw_hmac (B : Nat) (a : Option Addr) (len cap : Nat) (w : World) (hB : B ≤ w.heap.size) (h : RdCode B w a len) : Calls Tryd.prog 32 #[.slice a len cap] w (DrawSS 1001 B w) := by
  go_enter Tryd.func32, Tryd.ntmps32
  go_wp2_with fail
  refine (open_any B a len cap _ hB h).mono ?_
  rintro e w1 ⟨rfl, hR1, hg1⟩
  have hb1 := below_none hg1 hB
  clear hg1
  generalize w.heap.size = g at *
  go_wp2_with fail
  refine (once_any B _ _ _ hR1 (by omega) (by omega)).mono ?_
  rintro e w2 ⟨b, rfl, hR2, hg2⟩
  have hb2 := hb1.trans (grown_below hg2 hR1.1 hR1.2.1)
  clear hb1 hg2 hR1
  cases b
  case false =>
    go_wp2_with fail
    refine (text_any B _ _ hR2).mono ?_
    rintro e w3 ⟨s, rfl, hs, hR3, hg3⟩
    have hb3 := hb2.trans (grown_below hg3 hR2.1 hR2.2.1)
    clear hb2 hg3 hR2
    go_wp2_with fail
    refine (text_any B _ _ hR3).mono ?_
    rintro e w4 ⟨t, rfl, ht, hR4, hg4⟩
    have hb4 := hb3.trans (grown_below hg4 hR3.1 hR3.2.1)
    clear hb3 hg4 hR3
    go_wp2
    go_ret2
    exact ⟨s, t, rfl, by omega, by omega, hb4⟩
  case true =>
    have C0 := Lib.hid (below_any B g 3 w2.drew hR2.drew (by omega) (by omega))
    have HB := Lib.hid hb2
    have HR2 := Lib.hid hR2
    clear hb2 hR2
    go_wp2_with fail
    go_region_with (first
      | (go_at_call 84; (refine C0.out.mono ?_; rintro e w3 ⟨m, rfl, hm0, hm1, hR3, hg3⟩; obtain ⟨q, rfl⟩ : ∃ q : Nat, m = (q : Int) := ⟨m.toNat, (by omega)⟩; have hqi : (q : Int) < 3 := (by omega); have hq : q < 3 := (by omega); have hww : IntKind.i64.wrap (999 + (q : Int)) = 999 + (q : Int) := IntWalk.i64_in _ (by omega); have hmk := (fun W => Go.run_make_row' (P := Tryd.prog) 39 5 (.int .u8 0) 1 Tryd.underlying39 info_u8t rfl .i64 .i64 (999 + q) (by omega) (by omega) W); simp only [show ((999 + q : Nat) : Int) = 999 + (q : Int) by omega] at hmk; have hcv0 : ∀ W : World, (convert 39 9 (.slice (some ⟨W.heap.size, 0, none⟩) (999 + q) (999 + q))).run Tryd.prog (W.alloc (.cells (madeCells #[.int .u8 0] (999 + q)) 5)) = .ok (.string (str (List.replicate (999 + q) 0))) (W.alloc (.cells (madeCells #[.int .u8 0] (999 + q)) 5)) := (fun W => conv_madeT W _ (999 + q) (by omega) (heap_alloc_new W _)); have hb3 := HB.out.trans (grown_below (drew_grown hg3) HR2.out.1 HR2.out.2.1); clear hg3 hm0 hm1))
      | (go_at_call 85; (refine (text_any B g _ hR3).mono ?_; rintro e w4 ⟨s, rfl, hs, hR4, hg4⟩; have hb4 := hb3.trans (grown_below hg4 hR3.1 hR3.2.1); have hb5 : ∀ o, Below B w (w4.alloc o) := (fun o => hb4.alloc hR4.2.1 o); clear hg4 hb3))
      | (go_at_call 85; (refine (text_any B g _ (hR3.alloc _)).mono ?_; rintro e w4 ⟨s, rfl, hs, hR4, hg4⟩; have hcv1 := conv_madeT w3 w4 (999 + q) (by omega) ((hg4.block w3.heap.size (by simp) (by have := hR3.lt; simp; omega)).trans (heap_alloc_new w3 _)); have hb4 := (hb3.alloc hR3.2.1 _).trans (grown_below hg4 hR3.1 (by have := hR3.2.1; simp; omega)); clear hg4 hb3)))
    all_goals (try go_wp2)
    all_goals
      go_ret2
      first
        | exact ⟨_, s, rfl, by rw [str_size, List.length_replicate]; omega, by omega, hb4⟩
        | exact ⟨_, s, rfl, by rw [str_size, List.length_replicate]; omega, by omega, hb5 _⟩

set_option maxRecDepth 100000 in
set_option maxHeartbeats 4000000 in
theorem draw_extract (B : Nat) (a : Option Addr) (len cap : Nat) (w : World) (hB : B ≤ w.heap.size) (h : RdCode B w a len) : Calls Tryd.prog 37 #[.slice a len cap] w (DrawSS 1001 B w) := by
  go_enter Tryd.func37, Tryd.ntmps37
  go_wp2_with fail
  refine (open_any B a len cap _ hB h).mono ?_
  rintro e w1 ⟨rfl, hR1, hg1⟩
  have hb1 := below_none hg1 hB
  clear hg1
  generalize w.heap.size = g at *
  go_wp2_with fail
  refine (once_any B _ _ _ hR1 (by omega) (by omega)).mono ?_
  rintro e w2 ⟨b, rfl, hR2, hg2⟩
  have hb2 := hb1.trans (grown_below hg2 hR1.1 hR1.2.1)
  clear hb1 hg2 hR1
  cases b
  case false =>
    go_wp2_with fail
    refine (text_any B _ _ hR2).mono ?_
    rintro e w3 ⟨s, rfl, hs, hR3, hg3⟩
    have hb3 := hb2.trans (grown_below hg3 hR2.1 hR2.2.1)
    clear hb2 hg3 hR2
    go_wp2_with fail
    refine (text_any B _ _ hR3).mono ?_
    rintro e w4 ⟨t, rfl, ht, hR4, hg4⟩
    have hb4 := hb3.trans (grown_below hg4 hR3.1 hR3.2.1)
    clear hb3 hg4 hR3
    go_wp2
    go_ret2
    exact ⟨s, t, rfl, by omega, by omega, hb4⟩
  case true =>
    have C0 := Lib.hid (below_any B g 3 w2.drew hR2.drew (by omega) (by omega))
    have HB := Lib.hid hb2
    have HR2 := Lib.hid hR2
    clear hb2 hR2
    go_wp2_with fail
    go_region_with (first
      | (go_at_call 84; (refine C0.out.mono ?_; rintro e w3 ⟨m, rfl, hm0, hm1, hR3, hg3⟩; obtain ⟨q, rfl⟩ : ∃ q : Nat, m = (q : Int) := ⟨m.toNat, (by omega)⟩; have hqi : (q : Int) < 3 := (by omega); have hq : q < 3 := (by omega); have hww : IntKind.i64.wrap (299 + (q : Int)) = 299 + (q : Int) := IntWalk.i64_in _ (by omega); have hmk := (fun W => Go.run_make_row' (P := Tryd.prog) 39 5 (.int .u8 0) 1 Tryd.underlying39 info_u8t rfl .i64 .i64 (299 + q) (by omega) (by omega) W); simp only [show ((299 + q : Nat) : Int) = 299 + (q : Int) by omega] at hmk; have hcv0 : ∀ W : World, (convert 39 9 (.slice (some ⟨W.heap.size, 0, none⟩) (299 + q) (299 + q))).run Tryd.prog (W.alloc (.cells (madeCells #[.int .u8 0] (299 + q)) 5)) = .ok (.string (str (List.replicate (299 + q) 0))) (W.alloc (.cells (madeCells #[.int .u8 0] (299 + q)) 5)) := (fun W => conv_madeT W _ (299 + q) (by omega) (heap_alloc_new W _)); have hb3 := HB.out.trans (grown_below (drew_grown hg3) HR2.out.1 HR2.out.2.1); clear hg3 hm0 hm1))
      | (go_at_call 85; (refine (text_any B g _ hR3).mono ?_; rintro e w4 ⟨s, rfl, hs, hR4, hg4⟩; have hb4 := hb3.trans (grown_below hg4 hR3.1 hR3.2.1); have hb5 : ∀ o, Below B w (w4.alloc o) := (fun o => hb4.alloc hR4.2.1 o); clear hg4 hb3))
      | (go_at_call 85; (refine (text_any B g _ (hR3.alloc _)).mono ?_; rintro e w4 ⟨s, rfl, hs, hR4, hg4⟩; have hcv1 := conv_madeT w3 w4 (299 + q) (by omega) ((hg4.block w3.heap.size (by simp) (by have := hR3.lt; simp; omega)).trans (heap_alloc_new w3 _)); have hb4 := (hb3.alloc hR3.2.1 _).trans (grown_below hg4 hR3.1 (by have := hR3.2.1; simp; omega)); clear hg4 hb3)))
    all_goals (try go_wp2)
    all_goals
      go_ret2
      first
        | exact ⟨_, s, rfl, by rw [str_size, List.length_replicate]; omega, by omega, hb4⟩
        | exact ⟨_, s, rfl, by rw [str_size, List.length_replicate]; omega, by omega, hb5 _⟩

set_option maxHeartbeats 4000000 in
theorem draw_expand (B : Nat) (a : Option Addr) (len cap : Nat) (w : World) (hB : B ≤ w.heap.size) (h : RdCode B w a len) : Calls Tryd.prog 90 #[.slice a len cap] w (DrawSSI 1001 B w) := by
  go_enter Tryd.func90, Tryd.ntmps90
  go_wp2_with fail
  refine (open_any B a len cap _ hB h).mono ?_
  rintro e w1 ⟨rfl, hR1, hg1⟩
  have hb1 := below_none hg1 hB
  clear hg1
  generalize w.heap.size = g at *
  go_wp2_with fail
  refine (draw_extract w1.heap.size a len cap w1 (Nat.le_refl _) ((h.below hb1).wider hR1.2.1)).mono ?_
  rintro e w2 ⟨s, t, rfl, hs, ht, hbx⟩
  have hR2 := hR1.past hbx
  have hb2 := hb1.trans (hbx.mono hR1.2.1)
  clear hbx hb1 hR1
  go_wp2_with fail
  refine (once_any B _ _ _ hR2 (by omega) (by omega)).mono ?_
  rintro e w3 ⟨b, rfl, hR3, hg3⟩
  have hb3 := hb2.trans (grown_below hg3 hR2.1 hR2.2.1)
  clear hb2 hg3 hR2
  cases b
  case false =>
    go_wp2_with fail
    refine (below_any B _ _ _ hR3 (by omega) (by omega)).mono ?_
    rintro e w4 ⟨n, rfl, hn0, hn1, hR4, hg4⟩
    have hb4 := hb3.trans (grown_below hg4 hR3.1 hR3.2.1)
    clear hb3 hg4 hR3
    go_wp2
    refine bodyPost_ret (v := .tuple #[.string s, .string t, .int .i64 n]) (by simp [results, Tryd.results90, go_sem]) rfl ?_
    exact ⟨s, t, _, rfl, hs, ht, hb4⟩
  case true =>
    go_wp2_with fail
    refine (off_any B _ _ _ _ hR3 (by omega) (by omega) (by omega)).mono ?_
    rintro e w4 ⟨n, rfl, hn0, hR4, hg4⟩
    have hb4 := hb3.trans (grown_below hg4 hR3.1 hR3.2.1)
    clear hb3 hg4 hR3
    go_wp2
    refine bodyPost_ret (v := .tuple #[.string s, .string t, .int .i64 n]) (by simp [results, Tryd.results90, go_sem]) rfl ?_
    exact ⟨s, t, _, rfl, hs, ht, hb4⟩

set_option maxHeartbeats 4000000 in
theorem draw_hkdf (B : Nat) (a : Option Addr) (len cap : Nat) (w : World) (hB : B ≤ w.heap.size) (h : RdCode B w a len) : Calls Tryd.prog 36 #[.slice a len cap] w (DrawSSSI 1001 B w) := by
  go_enter Tryd.func36, Tryd.ntmps36
  go_wp2_with fail
  refine (open_any B a len cap _ hB h).mono ?_
  rintro e w1 ⟨rfl, hR1, hg1⟩
  have hb1 := below_none hg1 hB
  clear hg1
  generalize w.heap.size = g at *
  go_wp2_with fail
  refine (draw_expand w1.heap.size a len cap w1 (Nat.le_refl _) ((h.below hb1).wider hR1.2.1)).mono ?_
  rintro e w2 ⟨s, t, n, rfl, hs, ht, hbx⟩
  have hR2 := hR1.past hbx
  have hb2 := hb1.trans (hbx.mono hR1.2.1)
  clear hbx hb1 hR1
  go_wp2_with fail
  refine (text_any B _ _ hR2).mono ?_
  rintro e w3 ⟨u, rfl, hu, hR3, hg3⟩
  have hb3 := hb2.trans (grown_below hg3 hR2.1 hR2.2.1)
  clear hb2 hg3 hR2
  go_wp2
  refine bodyPost_ret (v := .tuple #[.string s, .string t, .string u, .int .i64 n]) (by simp [results, Tryd.results36, go_sem]) rfl ?_
  exact ⟨s, t, u, _, rfl, hs, ht, by omega, hb3⟩

end Go.Proofs.YtfbcmckepdjdkaaDoor
