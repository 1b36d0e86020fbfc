/- Draws: sizes, small texts, operations on disks. -/
import Derived.Test.YtepefbfmjjnamaaRdW
import Derived.Test.YtepefbfmjjnamaaMrgA
namespace Go.Proofs.Ytepefbfmjjnamaa
open Go.RowKit Go.My Go.Lib
set_option linter.unusedVariables false

theorem grown_setN {w w' : World} {r : Option Nat} (h : w.grownBy w' r) (k j : Nat) (v : Value) (hk : w.heap.size ≤ k) : w.grownBy (w'.setCell ⟨k, j, none⟩ v) r :=
  ⟨h.os, h.tape, h.output, by simpa using h.size, fun i hi hr => (heap_setCell_other w' ⟨k, j, none⟩ i v (by show i ≠ k; omega)).trans (h.block i hi hr)⟩
theorem rd_setN {B g : Nat} {w : World} (h : Rd B w g) (k j : Nat) (v : Value) (hk : k ≠ g) (hB : B ≤ k) : Rd B (w.setCell ⟨k, j, none⟩ v) g :=
  h.kept (r := some k) ⟨rfl, rfl, rfl, by simp, fun i hi hr => heap_setCell_other w ⟨k, j, none⟩ i v (fun e => hr (by rw [e]))⟩ (fun e => hk (Option.some.inj e)) (fun q hq => by rw [← Option.some.inj hq]; exact hB)
theorem three {n : Int} (h0 : 0 ≤ n) (h1 : n < 3) : n = 0 ∨ n = 1 ∨ n = 2 := by omega
theorem five {n : Int} (h0 : 0 ≤ n) (h1 : n < 5) : n = 0 ∨ n = 1 ∨ n = 2 ∨ n = 3 ∨ n = 4 := by omega
def DrawnSize (m : Int) (B g : Nat) (w : World) (e : Ending) (w' : World) : Prop := ∃ n : Int, e = .returned (.int .i64 n) ∧ 1 ≤ n ∧ n ≤ m ∧ Rd B w' g ∧ w.grownBy w' (some g)

set_option maxHeartbeats 1000000 in
theorem size_any (B g : Nat) (w : World) (h : Rd B w g) : Calls Try.prog 94 #[.pointer (some ⟨g, 0, none⟩), .int .i64 3, .int .i64 10] w (DrawnSize 10 B g w) := by
  have HR := Lib.hid h
  obtain ⟨_, _, a, len, cap, p, hh, hp, hc⟩ := h
  have hl : (len : Int) ≤ 1048576 := by have := hc.1; omega
  obtain ⟨c0, c1, _, _⟩ := cell_of_two hh
  clear hc hh hp
  have hq0 : (0 : Int) ≤ (len : Int) / 3 := by omega
  have hq1 : (len : Int) / 3 ≤ 1048576 := by omega
  by_cases hb : 10 < (1 + (len : Int) / 3)
  · go_enter Try.func94, Try.ntmps94
    go_wp2_with (go_at_call 63; refine (below_any B g _ w HR.out (by omega) (by omega)).mono ?_; rintro e w1 ⟨x, rfl, hx0, hx1, hR1, hg1⟩)
    go_ret
    exact ⟨_, rfl, by omega, by omega, hR1, hg1⟩
  · go_enter Try.func94, Try.ntmps94
    go_wp2_with (go_at_call 63; refine (below_any B g _ w HR.out (by omega) (by omega)).mono ?_; rintro e w1 ⟨x, rfl, hx0, hx1, hR1, hg1⟩)
    go_ret
    exact ⟨_, rfl, by omega, by omega, hR1, hg1⟩

set_option maxHeartbeats 1000000 in
theorem small_any (B g : Nat) (w : World) (h : Rd B w g) : Calls Try.prog 70 #[.pointer (some ⟨g, 0, none⟩)] w (DrawnStr 3 B g w) := by
  have hlt : g < w.heap.size := h.lt
  go_enter Try.func70, Try.ntmps70
  go_wp2_with fail
  refine (below_any B g _ _ (h.kept (World.grownBy_alloc w _ none) (by simp) (by simp)) (by omega) (by omega)).mono ?_
  rintro e w2 ⟨x, rfl, hx0, hx1, hR2, hg2⟩
  have hblk := (hg2.block w.heap.size (by simp) (by simp; omega)).trans (heap_alloc_new w _)
  have hc := fun j => cell_of_row w2 w.heap.size j _ _ _ hblk
  have R := grown_trans (World.grownBy_alloc w _ (some g)) hg2
  clear hg2 hblk h
  rcases five hx0 hx1 with rfl | rfl | rfl | rfl | rfl
  · have c := hc 0
    simp at c
    clear hc
    go_wp2
    go_ret
    exact ⟨_, rfl, by decide, hR2, R⟩
  · have c := hc 1
    simp at c
    clear hc
    go_wp2
    go_ret
    exact ⟨_, rfl, by decide, hR2, R⟩
  · have c := hc 2
    simp at c
    clear hc
    go_wp2
    go_ret
    exact ⟨_, rfl, by decide, hR2, R⟩
  · have c := hc 3
    simp at c
    clear hc
    go_wp2
    go_ret
    exact ⟨_, rfl, by decide, hR2, R⟩
  · have c := hc 4
    simp at c
    clear hc
    go_wp2
    go_ret
    exact ⟨_, rfl, by decide, hR2, R⟩

theorem set4 {w : World} {g : Nat} {x y z u : Value} {T : TypeId} (h : w.heap[g]? = some (.cells #[x, y, z, u] T (0, 0))) (a b c d : Value) : ((((w.setCell ⟨g, 0, none⟩ a).setCell ⟨g, 1, none⟩ b).setCell ⟨g, 2, none⟩ c).setCell ⟨g, 3, none⟩ d).heap[g]? = some (.cells #[a, b, c, d] T (0, 0)) :=
  heap_setCell_same _ g 3 _ _ d (heap_setCell_same _ g 2 _ _ c (heap_setCell_same _ g 1 _ _ b (heap_setCell_same _ g 0 _ _ a h)))
/-- Bounds of a drawn operation. -/
def opW (op : DOpT) : Prop := (Lit.int .i64 op.1).wf = true ∧ op.2.1.size ≤ 8 ∧ op.2.2.1.size ≤ 8 ∧ op.2.2.2.size ≤ 8
theorem opW_mk {k : Int} {n t x : ByteArray} (hk : (Lit.int .i64 k).wf = true) (hn : n.size ≤ 8) (ht : t.size ≤ 8) (hx : x.size ≤ 8) : opW (k, n, t, x) := ⟨hk, hn, ht, hx⟩
def DrawnOp (B g : Nat) (w : World) (e : Ending) (w' : World) : Prop := ∃ k n t x, e = .returned (.agg #[.int .i64 k, .string n, .string t, .string x]) ∧ opW (k, n, t, x) ∧ Rd B w' g ∧ w.grownBy w' (some g)

set_option maxRecDepth 20000 in
set_option maxHeartbeats 4000000 in
theorem dop_any (B g : Nat) (w : World) (h : Rd B w g) : Calls Try.prog 62 #[.pointer (some ⟨g, 0, none⟩)] w (DrawnOp B g w) := by
  have hlt : g < w.heap.size := h.lt
  have hBw : B ≤ w.heap.size := h.2.1
  go_enter Try.func62, Try.ntmps62
  go_wp2_with fail
  refine (below_any B g _ _ ((h.alloc _).alloc _) (by omega) (by omega)).mono ?_
  rintro e w2 ⟨x, rfl, hx0, hx1, hR2, hg2⟩
  have hblk : w2.heap[w.heap.size + 1]? = some (.cells #[.string ⟨#[108, 111, 103]⟩, .string ⟨#[98, 97, 115, 101]⟩, .string ⟨#[98, 97, 115, 101, 46, 110, 101, 119]⟩, .string ⟨#[98]⟩] 9 (0, 0)) := by
    rw [hg2.block (w.heap.size + 1) (by simp) (by simp; omega)]
    have := heap_alloc_new (w.alloc (.cells #[.int .i64 0, .string (ByteArray.mk #[]), .string (ByteArray.mk #[]), .string (ByteArray.mk #[])] 36)) (.cells #[.string ⟨#[108, 111, 103]⟩, .string ⟨#[98, 97, 115, 101]⟩, .string ⟨#[98, 97, 115, 101, 46, 110, 101, 119]⟩, .string ⟨#[98]⟩] 9)
    rw [World.size_alloc] at this
    exact this
  have hres := (hg2.block w.heap.size (by simp; omega) (by simp; omega)).trans ((((Below.refl (w.alloc _).heap.size (w.alloc _)).alloc (Nat.le_refl _) _).block w.heap.size (by simp)).trans (heap_alloc_new w _))
  have hc := fun j => cell_of_row w2 (w.heap.size + 1) j _ _ _ hblk
  have R := grown_trans (World.grownBy_alloc w _ (some g)) (grown_trans (World.grownBy_alloc (w.alloc _) _ (some g)) hg2)
  have HX := Lib.hid (And.intro hres R)
  clear hg2 hblk h hres R
  obtain ⟨N, hN, hNs⟩ : ∃ N : ByteArray, w2.cell? ⟨w.heap.size + 1, x.toNat, none⟩ = some (.string N) ∧ N.size ≤ 8 := by
    rcases four hx0 hx1 with rfl | rfl | rfl | rfl
    · have c := hc 0
      simp at c
      exact ⟨_, c, by decide⟩
    · have c := hc 1
      simp at c
      exact ⟨_, c, by decide⟩
    · have c := hc 2
      simp at c
      exact ⟨_, c, by decide⟩
    · have c := hc 3
      simp at c
      exact ⟨_, c, by decide⟩
  have hx4 : x < 4 := hx1
  clear hc hx1
  go_wp2_with fail
  refine (below_any B g _ _ hR2 (by omega) (by omega)).mono ?_
  rintro e w3 ⟨y, rfl, hy0, hy1, hR3, hg3⟩
  have hres := (hg3.block w.heap.size (Array.getElem?_eq_some_iff.1 HX.out.1).1 (by intro c; have := Option.some.inj c; omega)).trans HX.out.1
  have HY := Lib.hid (And.intro hres (grown_trans HX.out.2 hg3))
  clear hres hg3 hN hR2
  by_cases y0 : y = 0
  · subst y0
    go_wp2_with fail
    refine (below_any B g _ _ (hR3.alloc _) (by omega) (by omega)).mono ?_
    rintro e w4 ⟨z, rfl, hz0, hz1, hR4, hg4⟩
    have hblk := (hg4.block w3.heap.size (by simp) (by have := hR3.lt; simp; omega)).trans (heap_alloc_new w3 _)
    have hc := fun j => cell_of_row w4 w3.heap.size j _ _ _ hblk
    have hres := (hg4.block w.heap.size (by have := (Array.getElem?_eq_some_iff.1 HY.out.1).1; simp; omega) (by simp; omega)).trans (((Below.refl w3.heap.size w3).alloc (Nat.le_refl _) _).block w.heap.size (Array.getElem?_eq_some_iff.1 HY.out.1).1 |>.trans HY.out.1)
    have HZ := Lib.hid (And.intro hres (grown_trans HY.out.2 (grown_trans (World.grownBy_alloc w3 _ (some g)) hg4)))
    obtain ⟨M, hM, hMs⟩ : ∃ M : ByteArray, w4.cell? ⟨w3.heap.size, z.toNat, none⟩ = some (.string M) ∧ M.size ≤ 8 := by
      rcases three hz0 hz1 with rfl | rfl | rfl
      · have c := hc 0
        simp at c
        exact ⟨_, c, by decide⟩
      · have c := hc 1
        simp at c
        exact ⟨_, c, by decide⟩
      · have c := hc 2
        simp at c
        exact ⟨_, c, by decide⟩
    have hz3 : z < 3 := hz1
    obtain ⟨⟨r0, r1, r2, r3⟩, rf⟩ := dop_cells hres
    have rf0 := rf 0
    have rf1 := rf 1
    have rf2 := rf 2
    have rf3 := rf 3
    clear hc hz1 hblk hres hg4 hR3 rf
    go_wp2
    refine bodyPost_ret (v := .agg #[.int .i64 2, .string N, .string M, .string (ByteArray.mk #[])]) (results_cell_row Try.results62 _ _ w.heap.size 36 _ (0, 0) _ rfl (set4 HZ.out.1 _ _ _ _) Try.underlying36 rfl (by kernel_rfl)) rfl ⟨_, _, _, _, rfl, opW_mk (by decide) hNs hMs (by decide), ?_, ?_⟩
    · exact rd_setN (rd_setN (rd_setN (rd_setN hR4 _ _ _ (by omega) hBw) _ _ _ (by omega) hBw) _ _ _ (by omega) hBw) _ _ _ (by omega) hBw
    · exact grown_setN (grown_setN (grown_setN (grown_setN HZ.out.2 _ _ _ (Nat.le_refl _)) _ _ _ (Nat.le_refl _)) _ _ _ (Nat.le_refl _)) _ _ _ (Nat.le_refl _)
  have y0' : (y == 0) = false := by simpa using y0
  by_cases y1 : y = 1
  · subst y1
    obtain ⟨⟨r0, r1, r2, r3⟩, rf⟩ := dop_cells HY.out.1
    have rf0 := rf 0
    have rf1 := rf 1
    have rf2 := rf 2
    have rf3 := rf 3
    clear rf
    go_wp2
    refine bodyPost_ret (v := .agg #[.int .i64 3, .string N, .string (ByteArray.mk #[]), .string (ByteArray.mk #[])]) (results_cell_row Try.results62 _ _ w.heap.size 36 _ (0, 0) _ rfl (set4 HY.out.1 _ _ _ _) Try.underlying36 rfl (by kernel_rfl)) rfl ⟨_, _, _, _, rfl, opW_mk (by decide) hNs (by decide) (by decide), ?_, ?_⟩
    · exact rd_setN (rd_setN (rd_setN (rd_setN hR3 _ _ _ (by omega) hBw) _ _ _ (by omega) hBw) _ _ _ (by omega) hBw) _ _ _ (by omega) hBw
    · exact grown_setN (grown_setN (grown_setN (grown_setN HY.out.2 _ _ _ (Nat.le_refl _)) _ _ _ (Nat.le_refl _)) _ _ _ (Nat.le_refl _)) _ _ _ (Nat.le_refl _)
  have y1' : (y == 1) = false := by simpa using y1
  go_wp2_with fail
  refine (small_any B g _ hR3).mono ?_
  rintro e w4 ⟨s, rfl, hss, hR4, hg4⟩
  have hres := (hg4.block w.heap.size (Array.getElem?_eq_some_iff.1 HY.out.1).1 (by intro c; have := Option.some.inj c; omega)).trans HY.out.1
  have HZ := Lib.hid (And.intro hres (grown_trans HY.out.2 hg4))
  obtain ⟨⟨r0, r1, r2, r3⟩, rf⟩ := dop_cells hres
  have rf0 := rf 0
  have rf1 := rf 1
  have rf2 := rf 2
  have rf3 := rf 3
  clear hres hg4 hR3 rf
  go_wp2
  refine bodyPost_ret (v := .agg #[.int .i64 1, .string N, .string (ByteArray.mk #[]), .string s]) (results_cell_row Try.results62 _ _ w.heap.size 36 _ (0, 0) _ rfl (set4 HZ.out.1 _ _ _ _) Try.underlying36 rfl (by kernel_rfl)) rfl ⟨_, _, _, _, rfl, opW_mk (by decide) hNs (by decide) (by omega), ?_, ?_⟩
  · exact rd_setN (rd_setN (rd_setN (rd_setN hR4 _ _ _ (by omega) hBw) _ _ _ (by omega) hBw) _ _ _ (by omega) hBw) _ _ _ (by omega) hBw
  · exact grown_setN (grown_setN (grown_setN (grown_setN HZ.out.2 _ _ _ (Nat.le_refl _)) _ _ _ (Nat.le_refl _)) _ _ _ (Nat.le_refl _)) _ _ _ (Nat.le_refl _)

end Go.Proofs.Ytepefbfmjjnamaa
