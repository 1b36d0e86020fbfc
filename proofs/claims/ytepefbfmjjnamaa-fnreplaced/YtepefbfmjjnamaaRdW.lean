/- The reader's words and integers. -/
import Derived.Test.YtepefbfmjjnamaaRd
namespace Go.Proofs.Ytepefbfmjjnamaa
open Go.RowKit Go.My Go.Lib
set_option linter.unusedVariables false

def DrawnWord (B g : Nat) (w : World) (e : Ending) (w' : World) : Prop := ∃ n : Nat, e = .returned (.int .u64 n) ∧ n < U64 ∧ Rd B w' g ∧ w.grownBy w' (some g)

set_option maxHeartbeats 1000000 in
theorem word_any (B g : Nat) (w : World) (h : Rd B w g) : Calls Try.prog 118 #[.pointer (some ⟨g, 0, none⟩)] w (DrawnWord B g w) := by
  go_enter Try.func118, Try.ntmps118
  go_wp2
  go_loopw [3, 4] (fun x i wr => ∃ k n : Nat, k ≤ 8 ∧ i = .int .i64 k ∧ x = .int .u64 n ∧ n < U64 ∧ Rd B wr g ∧ w.grownBy wr (some g)) (fun _ i _ => 8 - (intOf i).toNat)
  case atStart => exact ⟨0, 0, by omega, rfl, rfl, by decide, h, World.grownBy.refl _ _⟩
  case round =>
    obtain ⟨k, n, hk, rfl, rfl, hn, hR, hgr⟩ := hrel
    by_cases hlt : k < 8
    · have hk0 : (k : Int) < 8 := by omega
      go_wp2_with fail
      refine (next_any B g _ hR).mono ?_
      rintro e w2 ⟨y, rfl, hy0, hy1, hR2, hg2⟩
      have R := grown_trans hgr hg2
      clear hgr hg2 hR
      go_wp2
      obtain ⟨m, hm, hme⟩ := or_u64_nat (IntKind.u64.wrap ((n : Int) * 256)) y
      go_roundw
      case rel => exact ⟨k + 1, m, by omega, by go_num, by rw [hme], hm, hR2, R⟩
      case measure => simp [intOf]; omega
    · obtain rfl : k = 8 := by omega
      go_wp2
      go_ret
      exact ⟨n, rfl, hn, hR, hgr⟩

def DrawnInt (B g : Nat) (w : World) (e : Ending) (w' : World) : Prop := ∃ n : Int, e = .returned (.int .i64 n) ∧ (Lit.int .i64 n).wf = true ∧ Rd B w' g ∧ w.grownBy w' (some g)
theorem wf_i64 (n : Int) (h0 : -9223372036854775808 ≤ n) (h1 : n ≤ 9223372036854775807) : (Lit.int .i64 n).wf = true := by
  simp [Lit.wf, IntKind.min, IntKind.max, IntKind.signed, IntKind.bits]; omega

theorem wf_wrap64 (n : Int) : (Lit.int .i64 (wrap64 n)).wf = true := by
  rw [← IntWalk.i64_left, IntKind.wrap_i64]
  exact wf_i64 _ (by omega) (by omega)

set_option maxHeartbeats 1000000 in
theorem near_any (B g : Nat) (lo hi : Int) (w : World) (h : Rd B w g) (h0 : -4611686018427387904 ≤ lo) (h1 : lo ≤ hi) (h2 : hi ≤ 4611686018427387902) : Calls Try.prog 106 #[.pointer (some ⟨g, 0, none⟩), .int .i64 lo, .int .i64 hi] w (DrawnInt B g w) := by
  go_enter Try.func106, Try.ntmps106
  go_wp2_with fail
  refine (below_any B g _ _ h (by omega) (by omega)).mono ?_
  rintro e w1 ⟨x, rfl, hx0, hx1, hR1, hg1⟩
  by_cases hx : x = 0
  · subst hx
    go_wp2
    go_ret
    exact ⟨lo, rfl, wf_i64 _ (by omega) (by omega), hR1, hg1⟩
  by_cases hy : x = 1
  · subst hy
    go_wp2
    go_ret
    exact ⟨hi, rfl, wf_i64 _ (by omega) (by omega), hR1, hg1⟩
  have e0 : (x == 0) = false := by simpa using hx
  have e1 : (x == 1) = false := by simpa using hy
  clear hx hy
  go_wp2_with fail
  refine (word_any B g _ hR1).mono ?_
  rintro e w2 ⟨n, rfl, hn, hR2, hg2⟩
  have hn2 : (0 : Int) ≤ (n : Int) / 2 := by omega
  go_wp2
  go_ret
  exact ⟨_, rfl, wf_wrap64 _, hR2, grown_trans hg1 hg2⟩

set_option maxHeartbeats 1000000 in
theorem off_any (B g : Nat) (lo hi : Int) (w : World) (h : Rd B w g) (h0 : -4611686018427387904 ≤ lo) (h1 : lo ≤ hi) (h2 : hi ≤ 4611686018427387902) : Calls Try.prog 64 #[.pointer (some ⟨g, 0, none⟩), .int .i64 lo, .int .i64 hi] w (DrawnInt B g w) := by
  go_enter Try.func64, Try.ntmps64
  go_wp2_with fail
  refine (once_any B g _ _ h (by omega) (by omega)).mono ?_
  rintro e w1 ⟨b, rfl, hR1, hg1⟩
  cases b with
  | false =>
    go_wp2_with fail
    refine (near_any B g lo hi _ hR1 h0 h1 h2).mono ?_
    rintro e w2 ⟨n, rfl, hn, hR2, hg2⟩
    go_wp2
    go_ret
    exact ⟨n, rfl, hn, hR2, grown_trans hg1 hg2⟩
  | true =>
    go_wp2_with fail
    refine (below_any B g _ _ (hR1.kept (World.grownBy_alloc w1 _ none) (by simp) (by simp)) (by omega) (by omega)).mono ?_
    rintro e w2 ⟨x, rfl, hx0, hx1, hR2, hg2⟩
    have hlt : g < w1.heap.size := by obtain ⟨_, _, a, len, cap, p, hh, _⟩ := hR1; exact (Array.getElem?_eq_some_iff.1 hh).1
    have hblk := (hg2.block w1.heap.size (by simp) (by simp; omega)).trans (heap_alloc_new w1 _)
    have hc := fun j => cell_of_row w2 w1.heap.size j _ _ _ hblk
    have R := grown_trans hg1 (grown_trans (World.grownBy_alloc w1 _ _) hg2)
    clear hg1 hg2 hblk hR1
    rcases four hx0 hx1 with rfl | rfl | rfl | rfl
    · have c := hc 0
      simp at c
      clear hc
      go_wp2
      go_ret
      exact ⟨_, rfl, wf_i64 _ (by omega) (by omega), hR2, R⟩
    · have c := hc 1
      simp at c
      clear hc
      go_wp2
      go_ret
      exact ⟨_, rfl, wf_i64 _ (by omega) (by omega), hR2, R⟩
    · have c := hc 2
      simp at c
      clear hc
      go_wp2
      go_ret
      exact ⟨_, rfl, wf_i64 _ (by omega) (by omega), hR2, R⟩
    · have c := hc 3
      simp at c
      clear hc
      go_wp2
      go_ret
      exact ⟨_, rfl, wf_i64 _ (by omega) (by omega), hR2, R⟩

end Go.Proofs.Ytepefbfmjjnamaa
