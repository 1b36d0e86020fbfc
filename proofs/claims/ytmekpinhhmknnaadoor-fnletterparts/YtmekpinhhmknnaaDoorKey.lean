/- The contract of the reader's 'key': a text of 40 bytes at most. -/
import Derived.Test.YtmekpinhhmknnaaDoorRd
import Derived.Deep.RegionWith
import Derived.Deep.RegionHeld3
namespace Go.Proofs.YtmekpinhhmknnaaDoor
open Go.RowKit Go.My Go.Lib
set_option linter.unusedVariables false

theorem eight {n : Int} (h0 : 0 ≤ n) (h1 : n < 8) : n = 0 ∨ n = 1 ∨ n = 2 ∨ n = 3 ∨ n = 4 ∨ n = 5 ∨ n = 6 ∨ n = 7 := by omega
theorem pick8 (a b c d e f g h : Int) (x : Int) (h0 : 0 ≤ x) (h1 : x < 8) (ha : 0 ≤ a ∧ a < 256) (hb : 0 ≤ b ∧ b < 256) (hc : 0 ≤ c ∧ c < 256) (hd : 0 ≤ d ∧ d < 256) (he : 0 ≤ e ∧ e < 256) (hf : 0 ≤ f ∧ f < 256) (hg : 0 ≤ g ∧ g < 256) (hh : 0 ≤ h ∧ h < 256) :
    ∃ t : Int, (#[Value.int .u8 a, .int .u8 b, .int .u8 c, .int .u8 d, .int .u8 e, .int .u8 f, .int .u8 g, .int .u8 h] : Array Value)[x.toNat]? = some (.int .u8 t) ∧ (∀ h', ([Value.int .u8 a, .int .u8 b, .int .u8 c, .int .u8 d, .int .u8 e, .int .u8 f, .int .u8 g, .int .u8 h] : List Value)[x.toNat]'h' = .int .u8 t) ∧ 0 ≤ t ∧ t < 256 := by
  rcases eight h0 h1 with rfl | rfl | rfl | rfl | rfl | rfl | rfl | rfl
  · exact ⟨a, rfl, fun _ => rfl, ha⟩
  · exact ⟨b, rfl, fun _ => rfl, hb⟩
  · exact ⟨c, rfl, fun _ => rfl, hc⟩
  · exact ⟨d, rfl, fun _ => rfl, hd⟩
  · exact ⟨e, rfl, fun _ => rfl, he⟩
  · exact ⟨f, rfl, fun _ => rfl, hf⟩
  · exact ⟨g, rfl, fun _ => rfl, hg⟩
  · exact ⟨h, rfl, fun _ => rfl, hh⟩

set_option maxHeartbeats 2000000 in
theorem key_any (B g : Nat) (w : World) (h : Rd B w g) : Calls Tryd.prog 83 #[.pointer (some ⟨g, 0, none⟩)] w (DrawnStr 40 B g w) := by
  obtain ⟨i0, hi, hz0, hz1, hz2⟩ := info_parts info_u8r
  go_enter Tryd.func83, Tryd.ntmps83
  go_wp2_with fail
  refine (once_any B g _ _ h (by omega) (by omega)).mono ?_
  rintro e w1 ⟨b, rfl, hR1, hg1⟩
  cases b with
  | true =>
    go_wp2_with fail
    refine (bytes_any B g 40 _ hR1 (by omega)).mono ?_
    rintro e w2 ⟨s, rfl, hs, hR2, hg2⟩
    go_wp2
    go_ret
    exact ⟨s, rfl, hs, hR2, grown_trans hg1 hg2⟩
  | false =>
    have hg : g < w1.heap.size := hR1.lt
    go_wp2_with fail
    have hown : (w1.alloc (.cells #[] 5)).ownsRow w1.heap.size 5 1 (.slice (some ⟨w1.heap.size, 0, none⟩) 0 0) 0 (cellsOf []) := World.ownsRow_lit w1 #[] 0 (Nat.le_refl _) (by unfold maxLen; omega) rfl
    refine (below_any B g _ _ (hR1.alloc _) (by omega) (by omega)).mono ?_
    rintro e w2 ⟨x, rfl, hx0, hx1, hR2, hg2⟩
    have hg2' : w1.grownBy w2 (some g) := grown_trans (World.grownBy_alloc w1 _ _) hg2
    have HG1 := Lib.hid hg1
    have hw1 : w1.heap.size ≤ w2.heap.size := Nat.le_trans (by simp) hg2.size
    have hown2 : w2.ownsRow w1.heap.size 5 1 (.slice (some ⟨w1.heap.size, 0, none⟩) 0 0) 0 (cellsOf []) := hown.kept hg2 (.inr (by simp [Value.ownBlock]; omega))
    clear hown hg2 hg1
    go_wp2
    go_loopw [3, 5] (fun v i wr => ∃ k : Nat, ∃ l : List UInt8, k ≤ 32 ∧ i = .int .i64 k ∧ wr.ownsRow w1.heap.size 5 1 v k (cellsOf l) ∧ Rd B wr g ∧ w1.grownBy wr (some g))
      (fun _ i _ => 32 - (intOf i).toNat)
    case atStart => exact ⟨0, [], Nat.zero_le _, rfl, hown2, hR2, hg2'⟩
    case round =>
    clear hown2 hR2 hg2'
    obtain ⟨k, l, hk, rfl, hown, hR, hgr⟩ := hrel
    by_cases hlt : k < 32
    · have hk0 : (k : Int) < 32 := by omega
      go_wp2_with fail
      refine (below_any B g _ _ hR (by omega) (by omega)).mono ?_
      rintro e w3 ⟨ya, rfl, hya0, hya1, hR3, hg3⟩
      go_wp2_with fail
      refine (below_any B g _ _ hR3 (by omega) (by omega)).mono ?_
      rintro e w4 ⟨yb, rfl, hyb0, hyb1, hR4, hg4⟩
      go_wp2_with fail
      refine (below_any B g _ _ hR4 (by omega) (by omega)).mono ?_
      rintro e w5 ⟨yc, rfl, hyc0, hyc1, hR5, hg5⟩
      go_wp2_with fail
      refine (below_any B g _ _ hR5 (by omega) (by omega)).mono ?_
      rintro e w6 ⟨yd, rfl, hyd0, hyd1, hR6, hg6⟩
      go_wp2_with fail
      refine (below_any B g _ _ hR6 (by omega) (by omega)).mono ?_
      rintro e w7 ⟨ye, rfl, hye0, hye1, hR7, hg7⟩
      have hgA : wr.grownBy w7 (some g) := grown_trans hg3 (grown_trans hg4 (grown_trans hg5 (grown_trans hg6 hg7)))
      have hown7 : w7.ownsRow w1.heap.size 5 1 u3 k (cellsOf l) := hown.kept hgA (.inr (fun c => by have := (hown.lt g c).1; omega))
      have hgr7 := grown_trans hgr hgA
      obtain ⟨y, hy, hy', hy0, hy1⟩ := pick8 0 255 ya yb (k : Int) yc yd ye x hx0 hx1 (by omega) (by omega) (by omega) (by omega) (by omega) (by omega) (by omega) (by omega)
      clear hown hR hgr hg3 hg4 hg5 hg6 hg7 hgA hR3 hR4 hR5 hR6
      have H7 := Lib.hid hgr7.size
      have R8 := Lib.hid (fun o => And.intro (hR7.alloc o) (grown_trans hgr7 (World.grownBy_alloc w7 o _)))
      have O8 := Lib.hid (fun o => hown7.alloc o)
      clear hR7 hgr7 hown7
      have hnew : ∀ o o', ((w7.alloc o).alloc o').heap[w7.heap.size + 1]? = some o' := by intro o o'; simpa using heap_alloc_new (w7.alloc o) o'
      have h7 : w1.heap.size ≤ w7.heap.size := H7.out
      go_wp2_with (at_builtin; refine wpList_append_lies _ rfl _ _ 51 rfl w1.heap.size 5 i0 (.int .u8 0) 1 1 Tryd.underlying51 hi hz0 hz1 hz2 rfl (by decide) u3 k _ rfl ((O8.out _).alloc _) ⟨w7.heap.size + 1, 0, none⟩ 1 1 [_] rfl rfl (World.news_of_block (cs := #[_]) (t := 5) (fr := (0, 0)) (hnew _ _)) (by simp [Value.oneCell']) (by omega) (by unfold maxLen; omega) (by omega) (by simp; omega) (w7.heap.size + 1 + 1) (by simp) ?_; intro g8 cap w8 hown8 hgrow8 hat hlt8)
      rw [byte_snoc l y hy0 hy1] at hown8
      have R := Rd.append (R8.out _).2 rfl (O8.out _) (R8.out _).1 hg hgrow8
      clear hgrow8 R8 O8
      go_roundw
      case rel => exact ⟨k + 1, _, by omega, by go_num, hown8, R.1, R.2⟩
      case measure => simp [intOf]; omega
    · obtain rfl : k = 32 := by omega
      have hcv := run_convert_own (P := Tryd.prog) wr 51 9 5 _ _ _ _ Tryd.underlying51 Tryd.underlying5 Tryd.underlying9 hown
      have hl : l.length = 32 := by have := hown.1; rw [cellsOf_length] at this; omega
      have HL := Lib.hid hl
      clear hown hl
      go_wp2
      go_ret
      exact ⟨str l, rfl, by rw [str_size, HL.out]; omega, hR, grown_trans HG1.out hgr⟩

end Go.Proofs.YtmekpinhhmknnaaDoor
