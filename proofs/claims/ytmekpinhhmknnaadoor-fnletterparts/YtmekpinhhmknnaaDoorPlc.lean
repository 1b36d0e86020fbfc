/- A byte of a code, and a place by a code. -/
import Derived.Test.YtmekpinhhmknnaaDoorDraw0
namespace Go.Proofs.YtmekpinhhmknnaaDoor
open Go.RowKit Go.My Go.Lib
set_option linter.unusedVariables false

set_option maxHeartbeats 1000000 in
theorem byteOf_any (B : Nat) (i : Nat) (a : Option Addr) (len cap : Nat) (w : World) (h : RdCode B w a len) (hi : i ≤ 1000) :
    Calls Tryd.prog 49 #[.slice a len cap, .int .i64 (i : Int)] w fun e w' => (∃ n : Int, e = .returned (.int .i64 n) ∧ 0 ≤ n ∧ n ≤ 255) ∧ Below w.heap.size w w' := by
  obtain ⟨hlen, hc⟩ := h
  have hlen' : (len : Int) ≤ 1048576 := by omega
  by_cases h0 : len = 0
  · subst h0
    go_enter Tryd.func49, Tryd.ntmps49
    go_wp2
    go_ret
    exact ⟨⟨0, rfl, by omega, by omega⟩, Below.refl _ _⟩
  rcases hc with hc | ⟨b, off, rfl, hbB, hc⟩
  · exact absurd hc h0
  have hp : i % len < len := Nat.mod_lt _ (by omega)
  obtain ⟨n, hn0, hn1, hn⟩ := hc (i % len) hp
  have hpI : (i : Int) % (len : Int) = ((i % len : Nat) : Int) := by omega
  generalize i % len = p at *
  have hne : ((len : Int) == 0) = false := by simp; omega
  have hpl' : (p : Int) < (len : Int) := by omega
  have hp0 : (0 : Int) ≤ (p : Int) := by omega
  have hi0 : (0 : Int) ≤ (i : Int) := by omega
  have hi1 : (i : Int) ≤ 1000 := by omega
  have hl0 : (0 : Int) < (len : Int) := by omega
  clear hc
  go_enter Tryd.func49, Tryd.ntmps49
  go_wp2
  go_ret
  exact ⟨⟨n, rfl, hn0, hn1⟩, Below.refl _ _⟩

set_option maxHeartbeats 1000000 in
theorem place_any (B : Nat) (m : Nat) (a : Option Addr) (len cap : Nat) (w : World) (hB : B ≤ w.heap.size) (h : RdCode B w a len) (hm : 1 ≤ m) (hm2 : m ≤ 1048577) :
    Calls Tryd.prog 24 #[.int .i64 (m : Int), .slice a len cap] w fun e w' => (∃ n : Nat, e = .returned (.int .i64 (n : Int)) ∧ n < m) ∧ Below w.heap.size w w' := by
  have hne : ((m : Int) == 0) = false := by simp; omega
  have hmI : (1 : Int) ≤ (m : Int) := by omega
  have hmJ : (m : Int) ≤ 1048577 := by omega
  go_enter Tryd.func24, Tryd.ntmps24
  go_wp2_with fail
  refine (byteOf_any B 1 a len cap _ h (by omega)).mono ?_
  rintro e w1 ⟨⟨x, rfl, hx0, hx1⟩, hb1⟩
  go_wp2_with fail
  refine (byteOf_any B 2 a len cap _ (h.below (hb1.mono hB)) (by omega)).mono ?_
  rintro e w2 ⟨⟨y, rfl, hy0, hy1⟩, hb2⟩
  have hb := hb1.trans (hb2.mono hb1.size)
  clear hb1 hb2
  go_wp2
  go_ret
  refine ⟨⟨((x * 256 + y) % (m : Int)).toNat, ?_, ?_⟩, hb⟩
  · rw [Int.toNat_of_nonneg (Int.emod_nonneg _ (by omega))]
    rfl
  · have := Int.emod_lt_of_pos (x * 256 + y) (show (0 : Int) < (m : Int) by omega)
    have := Int.emod_nonneg (x * 256 + y) (show (m : Int) ≠ 0 by omega)
    omega
end Go.Proofs.YtmekpinhhmknnaaDoor
