/- The draws of blocks and streams. -/
import Derived.Test.YtipcficcoogbnaaDraw0
import Derived.Test.YtipcficcoogbnaaKey
import Derived.Test.YtipcficcoogbnaaText
import Derived.Test.YtipcficcoogbnaaRdW
import Derived.Deep.RegionWith
namespace Go.Proofs.Ytipcficcoogbnaa
open Go.RowKit Go.My Go.Lib
set_option linter.unusedVariables false

theorem RdCode.widerS {B C : Nat} {w : World} {a : Option Addr} {len : Nat} (h : RdCode B w a len) (hc : B ≤ C) : RdCode C w a len := by
  obtain ⟨h1, h2⟩ := h
  refine ⟨h1, ?_⟩
  rcases h2 with h2 | ⟨b, off, ha, hb, hx⟩
  · exact .inl h2
  · exact .inr ⟨b, off, ha, by omega, hx⟩
theorem Rd.pastS {B g : Nat} {w w' : World} (h : Rd B w g) (hb : Below w.heap.size w w') : Rd B w' g := h.kept (r := none) ⟨hb.os, hb.tape, hb.output, hb.size, fun k hk _ => hb.block k hk⟩ (by simp) (by simp)
def DrawKN (B : Nat) (w : World) (e : Ending) (w' : World) : Prop := ∃ (k n : ByteArray) (c : Int), e = .returned (.tuple #[.string k, .int .i64 c, .string n]) ∧ k.size ≤ 40 ∧ n.size ≤ 14 ∧ Below B w w'
def DrawKND (B : Nat) (w : World) (e : Ending) (w' : World) : Prop := ∃ k n d : ByteArray, e = .returned (.tuple #[.string k, .string n, .string d]) ∧ (k.size ≤ 40 ∧ n.size ≤ 14 ∧ d.size ≤ 401) ∧ Below B w w'
theorem ext12 (a b : ByteArray) (h : b.size = 12) : ((a ++ b).extract 0 12).size = 12 := by rw [ByteArray.size_extract, ByteArray.size_append]; omega

set_option maxRecDepth 100000 in
set_option maxHeartbeats 2000000 in
theorem draw_block (B : Nat) (a : Option Addr) (len cap : Nat) (w : World) (hB : B ≤ w.heap.size) (h : RdCode B w a len) : Calls Try.prog 23 #[.slice a len cap] w (DrawKN B w) := by
  obtain ⟨Z, hZe, hZ⟩ : ∃ Z : ByteArray, Z = str (List.replicate 12 0) ∧ Z.size = 12 := ⟨_, rfl, by rw [str_size, List.length_replicate]⟩
  have hmk := fun W => Go.run_make_row' (P := Try.prog) 26 5 (.int .u8 0) 1 Try.underlying26 info_u8t rfl .i64 .i64 12 (by omega) (by omega) W
  simp only [show ((12 : Nat) : Int) = 12 from rfl] at hmk
  have hcvK : ∀ (W w' : World) (h : w'.heap[W.heap.size]? = some (.cells (madeCells #[.int .u8 0] 12) 5 (0, 0))), (convert 26 9 (.slice (some ⟨W.heap.size, 0, none⟩) 12 12)).run Try.prog w' = .ok (.string Z) w' := fun W w' h => by rw [hZe]; exact conv_madeT W w' 12 (by omega) h
  have hcv0 := fun W => hcvK W (W.alloc (.cells (madeCells #[.int .u8 0] 12) 5)) (heap_alloc_new W _)
  have HCV := Lib.hid hcvK
  have hZ' : (Z.size : Int) = 12 := by omega
  have HZ := Lib.hid hZ
  clear hcvK hZe hZ
  go_enter Try.func23, Try.ntmps23
  go_wp2_with fail
  refine (open_any B a len cap _ hB h).mono ?_
  rintro e w1 ⟨rfl, hR1, hg1⟩
  have hb1 := below_none hg1 hB
  clear hg1
  generalize w.heap.size = g at *
  have hlt := hR1.lt
  have hcvd := HCV.out w1 (w1.alloc (.cells (madeCells #[.int .u8 0] 12) 5)).drew (heap_alloc_new w1 _)
  have C1 := Lib.hid (fun o => (show Calls Try.prog 26 #[.pointer (some ⟨g, 0, none⟩), .int .i64 12] (w1.alloc o).drew (DrawnStr 12 B g (w1.alloc o).drew) from bytes_any B g 12 (w1.alloc o).drew (hR1.alloc o).drew (by omega)))
  have C2 := Lib.hid (show Calls Try.prog 26 #[.pointer (some ⟨g, 0, none⟩), .int .i64 12] w1.drew (DrawnStr 12 B g w1.drew) from bytes_any B g 12 w1.drew hR1.drew (by omega))
  have HB1 := Lib.hid (And.intro hb1 hR1)
  clear hb1 hR1
  go_wp2_with fail
  go_region_with (first
    | (go_at_call 26; (refine (C1.out _).mono ?_; rintro e w3 ⟨s, rfl, hs, hR3, hg3⟩; have hcv1 := HCV.out w1 w3 ((hg3.block w1.heap.size (by simp) (by simp; omega)).trans (heap_alloc_new w1 _)); have hs' : (s.size : Int) ≤ 12 := (by omega); have hss : ¬ 9223372036854775807 < s.size + Z.size := (by have := HZ.out; omega); have q12 : (12 : Int) ≤ (s.size : Int) + (Z.size : Int) := (by omega); have q13 : 12 ≤ s.size + Z.size := (by omega); have hb3 := (HB1.out.1.alloc HB1.out.2.2.1 _).drew.trans (grown_below hg3 HB1.out.2.1 (by have := HB1.out.2.2.1; simp; omega)); clear hg3 hs))
    | (go_at_call 26; (refine C2.out.mono ?_; rintro e w3 ⟨s, rfl, hs, hR3, hg3⟩; have hs' : (s.size : Int) ≤ 12 := (by omega); have hss : ¬ 9223372036854775807 < s.size + Z.size := (by have := HZ.out; omega); have q12 : (12 : Int) ≤ (s.size : Int) + (Z.size : Int) := (by omega); have q13 : 12 ≤ s.size + Z.size := (by omega); have hb3 := HB1.out.1.trans (grown_below (drew_grown hg3) HB1.out.2.1 HB1.out.2.2.1); clear hg3 hs)))
  all_goals
    have hy : ((s ++ Z).extract 0 12).size ≤ 12 := by rw [ByteArray.size_extract]; omega
    generalize (s ++ Z).extract 0 12 = y at *
    clear hcv0 hcvd HCV HZ C1 C2 hmk
    first
    | have hRX := hR3
      have hbX := hb3
      clear hR3 hb3
      go_wp2_with fail
      refine (once_any B g 12 _ hRX (by omega) (by omega)).mono ?_
      rintro e w4 ⟨b, rfl, hR4, hg4⟩
      have hb4 := hbX.trans (grown_below hg4 hRX.1 hRX.2.1)
      clear hbX hg4 hRX
      cases b
      case false =>
        go_wp2_with fail
        refine (key_any B _ _ hR4).mono ?_
        rintro e w5 ⟨k, rfl, hk, hR5, hg5⟩
        have hb5 := hb4.trans (grown_below hg5 hR4.1 hR4.2.1)
        clear hb4 hg5 hR4
        go_wp2_with fail
        refine (off_any B _ _ _ _ hR5 (by omega) (by omega) (by omega)).mono ?_
        rintro e w6 ⟨c, rfl, hcw, hR6, hg6⟩
        have hb6 := hb5.trans (grown_below hg6 hR5.1 hR5.2.1)
        clear hb5 hg6 hR5
        go_wp2
        go_ret3
        exact ⟨k, _, c, rfl, by omega, by omega, hb6⟩
      case true =>
        go_wp2_with fail
        refine (bytes_any B _ 14 _ hR4 (by omega)).mono ?_
        rintro e w7 ⟨m, rfl, hm, hR7, hg7⟩
        have hb7 := hb4.trans (grown_below hg7 hR4.1 hR4.2.1)
        clear hb4 hg7 hR4
        go_wp2_with fail
        refine (key_any B _ _ hR7).mono ?_
        rintro e w5 ⟨k, rfl, hk, hR5, hg5⟩
        have hb5 := hb7.trans (grown_below hg5 hR7.1 hR7.2.1)
        clear hb7 hg5 hR7
        go_wp2_with fail
        refine (off_any B _ _ _ _ hR5 (by omega) (by omega) (by omega)).mono ?_
        rintro e w6 ⟨c, rfl, hcw, hR6, hg6⟩
        have hb6 := hb5.trans (grown_below hg6 hR5.1 hR5.2.1)
        clear hb5 hg6 hR5
        go_wp2
        go_ret3
        exact ⟨k, m, c, rfl, by omega, by omega, hb6⟩
    | have hRX := hR3.alloc (.cells (madeCells #[.int .u8 0] 12) 5)
      have hbX := hb3.alloc hR3.2.1 (.cells (madeCells #[.int .u8 0] 12) 5)
      clear hR3 hb3
      go_wp2_with fail
      refine (once_any B g 12 _ hRX (by omega) (by omega)).mono ?_
      rintro e w4 ⟨b, rfl, hR4, hg4⟩
      have hb4 := hbX.trans (grown_below hg4 hRX.1 hRX.2.1)
      clear hbX hg4 hRX
      cases b
      case false =>
        go_wp2_with fail
        refine (key_any B _ _ hR4).mono ?_
        rintro e w5 ⟨k, rfl, hk, hR5, hg5⟩
        have hb5 := hb4.trans (grown_below hg5 hR4.1 hR4.2.1)
        clear hb4 hg5 hR4
        go_wp2_with fail
        refine (off_any B _ _ _ _ hR5 (by omega) (by omega) (by omega)).mono ?_
        rintro e w6 ⟨c, rfl, hcw, hR6, hg6⟩
        have hb6 := hb5.trans (grown_below hg6 hR5.1 hR5.2.1)
        clear hb5 hg6 hR5
        go_wp2
        go_ret3
        exact ⟨k, _, c, rfl, by omega, by omega, hb6⟩
      case true =>
        go_wp2_with fail
        refine (bytes_any B _ 14 _ hR4 (by omega)).mono ?_
        rintro e w7 ⟨m, rfl, hm, hR7, hg7⟩
        have hb7 := hb4.trans (grown_below hg7 hR4.1 hR4.2.1)
        clear hb4 hg7 hR4
        go_wp2_with fail
        refine (key_any B _ _ hR7).mono ?_
        rintro e w5 ⟨k, rfl, hk, hR5, hg5⟩
        have hb5 := hb7.trans (grown_below hg5 hR7.1 hR7.2.1)
        clear hb7 hg5 hR7
        go_wp2_with fail
        refine (off_any B _ _ _ _ hR5 (by omega) (by omega) (by omega)).mono ?_
        rintro e w6 ⟨c, rfl, hcw, hR6, hg6⟩
        have hb6 := hb5.trans (grown_below hg6 hR5.1 hR5.2.1)
        clear hb5 hg6 hR5
        go_wp2
        go_ret3
        exact ⟨k, m, c, rfl, by omega, by omega, hb6⟩

set_option maxRecDepth 100000 in
set_option maxHeartbeats 4000000 in
theorem draw_stream (B : Nat) (a : Option Addr) (len cap : Nat) (w : World) (hB : B ≤ w.heap.size) (h : RdCode B w a len) : Calls Try.prog 11 #[.slice a len cap] w (DrawKND B w) := by
  go_enter Try.func11, Try.ntmps11
  go_wp2_with fail
  refine (open_any B a len cap _ hB h).mono ?_
  rintro e w1 ⟨rfl, hR1, hg1⟩
  have hb1 := below_none hg1 hB
  clear hg1
  generalize w.heap.size = g at *
  go_wp2_with fail
  refine (draw_block w1.heap.size a len cap w1 (Nat.le_refl _) ((h.below hb1).widerS hR1.2.1)).mono ?_
  rintro e w2 ⟨k, n, c, rfl, hk, hn, hbx⟩
  have hR2 := hR1.pastS hbx
  have hb2 := hb1.trans (hbx.mono hR1.2.1)
  clear hbx hb1 hR1
  go_wp2_with fail
  refine (once_any B _ _ _ hR2 (by omega) (by omega)).mono ?_
  rintro e w3 ⟨b, rfl, hR3, hg3⟩
  have hb3 := hb2.trans (grown_below hg3 hR2.1 hR2.2.1)
  clear hb2 hg3 hR2
  cases b
  case false =>
    go_wp2_with fail
    refine (bytes_any B _ 150 _ hR3 (by omega)).mono ?_
    rintro e w4 ⟨d, rfl, hd, hR4, hg4⟩
    have hb4 := hb3.trans (grown_below hg4 hR3.1 hR3.2.1)
    clear hb3 hg4 hR3
    go_wp2
    go_ret3
    exact ⟨k, n, d, rfl, ⟨hk, hn, by omega⟩, hb4⟩
  case true =>
    have C0 := Lib.hid (below_any B g 3 w3.drew hR3.drew (by omega) (by omega))
    have HB := Lib.hid hb3
    have HR3 := Lib.hid hR3
    clear hb3 hR3
    go_wp2_with fail
    go_region_with (first
      | (go_at_call 25; (refine C0.out.mono ?_; rintro e w4 ⟨m, rfl, hm0, hm1, hR4, hg4⟩; obtain ⟨q, rfl⟩ : ∃ q : Nat, m = (q : Int) := ⟨m.toNat, (by omega)⟩; have hqi : (q : Int) < 3 := (by omega); have hq : q < 3 := (by omega); have hww : IntKind.i64.wrap (399 + (q : Int)) = 399 + (q : Int) := IntWalk.i64_in _ (by omega); have hmk := (fun W => Go.run_make_row' (P := Try.prog) 26 5 (.int .u8 0) 1 Try.underlying26 info_u8t rfl .i64 .i64 (399 + q) (by omega) (by omega) W); simp only [show ((399 + q : Nat) : Int) = 399 + (q : Int) by omega] at hmk; have hcv0 : ∀ W : World, (convert 26 9 (.slice (some ⟨W.heap.size, 0, none⟩) (399 + q) (399 + q))).run Try.prog (W.alloc (.cells (madeCells #[.int .u8 0] (399 + q)) 5)) = .ok (.string (str (List.replicate (399 + q) 0))) (W.alloc (.cells (madeCells #[.int .u8 0] (399 + q)) 5)) := (fun W => conv_madeT W _ (399 + q) (by omega) (heap_alloc_new W _)); have hb4 := HB.out.trans (grown_below (drew_grown hg4) HR3.out.1 HR3.out.2.1); have hb5 : ∀ o, Below B w (w4.alloc o) := (fun o => hb4.alloc hR4.2.1 o); clear hg4 hm0 hm1)))
    all_goals (try go_wp2)
    all_goals
      go_ret3
      exact ⟨k, n, _, rfl, ⟨hk, hn, by rw [str_size, List.length_replicate]; omega⟩, hb5 _⟩

end Go.Proofs.Ytipcficcoogbnaa
