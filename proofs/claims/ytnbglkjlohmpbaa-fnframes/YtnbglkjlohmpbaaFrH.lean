/- The draws of frames. -/
import Derived.Test.YtnbglkjlohmpbaaFrC
import Derived.Test.YtnbglkjlohmpbaaHurt
import Derived.Test.YtnbglkjlohmpbaaDraw0
namespace Go.Proofs.Ytnbglkjlohmpbaa
open Go.RowKit Go.My Go.Lib
set_option linter.unusedVariables false

def smallS : List ByteArray := [⟨#[]⟩, ⟨#[97]⟩, ⟨#[120, 10]⟩, ⟨#[97, 98, 99]⟩, ⟨#[0]⟩]
theorem pick5 (x : Int) (h0 : 0 ≤ x) (h1 : x < 5) : ∃ t : ByteArray, (#[Value.string ⟨#[]⟩, Value.string ⟨#[97]⟩, Value.string ⟨#[120, 10]⟩, Value.string ⟨#[97, 98, 99]⟩, Value.string ⟨#[0]⟩] : Array Value)[x.toNat]? = some (.string t) ∧ t.size ≤ 3 := by
  have : x = 0 ∨ x = 1 ∨ x = 2 ∨ x = 3 ∨ x = 4 := by omega
  rcases this with rfl | rfl | rfl | rfl | rfl
  · exact ⟨⟨#[]⟩, rfl, by decide⟩
  · exact ⟨⟨#[97]⟩, rfl, by decide⟩
  · exact ⟨⟨#[120, 10]⟩, rfl, by decide⟩
  · exact ⟨⟨#[97, 98, 99]⟩, rfl, by decide⟩
  · exact ⟨⟨#[0]⟩, rfl, by decide⟩

set_option maxHeartbeats 600000 in
theorem small_any (B g : Nat) (w : World) (h : Rd B w g) : Calls Try.prog 70 #[.pointer (some ⟨g, 0, none⟩)] w (DrawnStr 3 B g w) := by
  have hlt := h.lt
  go_enter Try.func70, Try.ntmps70
  go_wp2_with fail
  refine (below_any B g _ _ (h.kept (World.grownBy_alloc w _ none) (by simp) (by simp)) (by omega) (by omega)).mono ?_
  rintro e w2 ⟨y, rfl, hy0, hy1, hR2, hg2⟩
  have hblk := (hg2.block w.heap.size (by simp) (by simp; omega)).trans (heap_alloc_new w _)
  have hc := cell_of_row w2 w.heap.size y.toNat _ _ _ hblk
  obtain ⟨t, ht, hts⟩ := pick5 y hy0 hy1
  rw [ht] at hc
  have R := grown_trans (World.grownBy_alloc w _ _) hg2
  have HT := Lib.hid hts
  clear hg2 hblk h ht hts
  go_wp2
  go_ret
  exact ⟨t, rfl, HT.out, hR2, R⟩

def DrawS1 (N B : Nat) (w : World) (e : Ending) (w' : World) : Prop := ∃ s : ByteArray, e = .returned (.string s) ∧ s.size ≤ N ∧ Below B w w'

set_option maxHeartbeats 600000 in
theorem draw_frameOf (B : Nat) (a : Option Addr) (len cap : Nat) (w : World) (hB : B ≤ w.heap.size) (h : RdCode B w a len) : Calls Try.prog 34 #[.slice a len cap] w (DrawS1 8 B w) := by
  go_enter Try.func34, Try.ntmps34
  go_wp2_with fail
  refine (open_any B a len cap _ hB h).mono ?_
  rintro e w1 ⟨rfl, hR1, hg1⟩
  have hb1 := below_none hg1 hB
  go_wp2_with fail
  refine (small_any B w.heap.size _ hR1).mono ?_
  rintro e w2 ⟨t, rfl, ht, hR2, hg2⟩
  have hb2 := hb1.trans (grown_below hg2 hB hR1.2.1)
  go_wp2_with fail
  refine (bytes_any B w.heap.size 5 _ hR2 (by omega)).mono ?_
  rintro e w3 ⟨u, rfl, hu, hR3, hg3⟩
  have hb3 := hb2.trans (grown_below hg3 hB hR2.2.1)
  have hc : ¬ 9223372036854775807 < t.size + u.size := by omega
  have HZ : Hid ((t ++ u).size ≤ 8) := by show _ ≤ _; rw [ByteArray.size_append]; omega
  clear hb1 hb2 hg1 hg2 hg3 hR1 hR2 hR3 ht hu h
  go_wp2
  go_ret
  exact ⟨_, rfl, HZ.out, hb3⟩

set_option maxHeartbeats 600000 in
theorem draw_takeFrames (B : Nat) (a : Option Addr) (len cap : Nat) (w : World) (hB : B ≤ w.heap.size) (h : RdCode B w a len) : Calls Try.prog 29 #[.slice a len cap] w (DrawS1 50 B w) := by
  go_enter Try.func29, Try.ntmps29
  go_wp2_with fail
  refine (open_any B a len cap _ hB h).mono ?_
  rintro e w1 ⟨rfl, hR1, hg1⟩
  have hb1 := below_none hg1 hB
  go_wp2_with fail
  refine (below_any B w.heap.size 4 _ hR1 (by omega) (by omega)).mono ?_
  rintro e w2 ⟨x, rfl, hx0, hx1, hR2, hg2⟩
  have hb2 := hb1.trans (grown_below hg2 hB hR1.2.1)
  obtain ⟨n, rfl⟩ : ∃ n : Nat, x = n := ⟨x.toNat, by omega⟩
  have hn : n ≤ 3 := by omega
  clear hb1 hg1 hg2 hR1 h hx0 hx1
  go_wp2
  go_loopw [4, 5] (fun s i wr => ∃ (k : Nat) (t : ByteArray), k ≤ n ∧ i = .int .i64 k ∧ s = .string t ∧ t.size + 11 * k ≤ 33 ∧ Rd B wr w.heap.size ∧ Below B w wr) (fun _ i _ => (intOf i).toNat)
  case atStart => exact ⟨n, ⟨#[]⟩, Nat.le_refl _, rfl, rfl, by show 0 + _ ≤ _; omega, hR2, hb2⟩
  case round =>
    clear hR2 hb2
    rename_i wr
    obtain ⟨k, t, hk, rfl, rfl, ht, hR, hb⟩ := hrel
    by_cases h0 : 0 < k
    · have h0' : (0 : Int) < (k : Int) := by omega
      have HT := Lib.hid ht
      clear ht
      go_wp2_with fail
      refine (small_any B w.heap.size _ hR).mono ?_
      rintro e w3 ⟨u, rfl, hu, hR3, hg3⟩
      have hb3 := hb.trans (grown_below hg3 hB hR.2.1)
      clear hg3 hR hb
      go_wp2_with fail
      refine (frame_s u _ (by omega)).mono ?_
      rintro e w4 ⟨rfl, hb4⟩
      have hR4 : Rd B w4 w.heap.size := hR3.kept (r := none) ⟨hb4.os, hb4.tape, hb4.output, hb4.size, fun k hk _ => hb4.block k hk⟩ (by simp) (by simp)
      have hb5 := hb3.trans (hb4.mono hR3.2.1)
      have hz : (frmB u).size ≤ 11 := by
        rw [show frmB u = str (frmL u.data.toList) from if_pos (by omega), str_size, frmL_len, len_data]
        omega
      generalize frmB u = f at *
      have hc : ¬ 9223372036854775807 < t.size + f.size := by have := HT.out; omega
      have HZ : Hid ((t ++ f).size + 11 * (k - 1) ≤ 33) := by have := HT.out; show _ ≤ _; rw [ByteArray.size_append]; omega
      clear hz hb3 hb4 hR3 hu
      have e1 : (k : Int) - 1 = ((k - 1 : Nat) : Int) := by omega
      go_wp2
      go_roundw
      case rel => exact ⟨k - 1, _, by omega, by rw [← e1], rfl, HZ.out, hR4, hb5⟩
      case measure => simp [intOf] <;> omega
    · obtain rfl : k = 0 := by omega
      have HT : Hid (t.size ≤ 33) := by show _ ≤ _; omega
      clear ht
      go_wp2_with fail
      refine (hurt_any B w.heap.size t _ hR (by have := HT.out; omega)).mono ?_
      rintro e w3 ⟨u, rfl, hu, hR3, hg3⟩
      have hb3 := hb.trans (grown_below hg3 hB hR.2.1)
      have HU : Hid (u.size ≤ 50) := by have := HT.out; show _ ≤ _; omega
      clear hg3 hR hb hu
      go_wp2
      go_ret
      exact ⟨_, rfl, HU.out, hb3⟩

end Go.Proofs.Ytnbglkjlohmpbaa
