/- The contracts of the draws of chapter 1, more: two strings; two integers. -/
import Derived.Test.YtobjbnefikdlnaaDraw1
namespace Go.Proofs.Ytobjbnefikdlnaa
open Go.RowKit Go.My Go.Lib
set_option linter.unusedVariables false

set_option maxHeartbeats 1000000 in
theorem draw_xorOf (B : Nat) (a : Option Addr) (len cap : Nat) (w : World) (hB : B ≤ w.heap.size) (h : RdCode B w a len) : Calls Try.prog 19 #[.slice a len cap] w (DrawSS 20 B w) := by
  obtain ⟨i0, hi, hz0, hz1, hz2⟩ := info_parts info_u8r
  go_enter Try.func19, Try.ntmps19
  go_wp2_with fail
  refine (open_any B a len cap _ hB h).mono ?_
  rintro e w1 ⟨rfl, hR1, hg1⟩
  have hb1 := below_none hg1 hB
  go_wp2_with fail
  refine (bytes_any B _ 20 _ hR1 (by omega)).mono ?_
  rintro e w2 ⟨s, rfl, hs, hR2, hg2⟩
  have hb2 := hb1.trans (grown_below hg2 hR1.1 hR1.2.1)
  clear hg1 hg2 hb1 hR1
  go_wp2_with fail
  refine (once_any B _ _ _ hR2 (by omega) (by omega)).mono ?_
  rintro e w3 ⟨b, rfl, hR3, hg3⟩
  have hb3 := hb2.trans (grown_below hg3 hR2.1 hR2.2.1)
  clear hb2 hg3 hR2
  cases b with
  | true =>
    go_wp2_with fail
    refine (bytes_any B _ 20 _ hR3 (by omega)).mono ?_
    rintro e w4 ⟨t, rfl, ht, hR4, hg4⟩
    have hb4 := hb3.trans (grown_below hg4 hR3.1 hR3.2.1)
    clear hb3 hg4
    go_wp2
    go_ret2
    exact ⟨s, t, rfl, hs, ht, hb4⟩
  | false =>
    have hgl := hR3.lt
    have hown : (w3.alloc (.cells #[] 5)).ownsRow w3.heap.size 5 1 (.slice (some ⟨w3.heap.size, 0, none⟩) 0 0) 0 (cellsOf []) := World.ownsRow_lit w3 #[] 0 (Nat.le_refl _) (by unfold maxLen; omega) rfl
    have hR3a := hR3.alloc (.cells #[] 5)
    have hg3a : w3.grownBy (w3.alloc (.cells #[] 5)) (some w.heap.size) := World.grownBy_alloc w3 _ _
    have hB3 := hR3.2.1
    have hBg := hR3.1
    clear hR3
    go_wp2
    go_loopw [6, 7] (fun v i wr => ∃ k : Nat, ∃ l : List UInt8, k ≤ s.size ∧ i = .int .i64 k ∧ wr.ownsRow w3.heap.size 5 1 v k (cellsOf l) ∧ Rd B wr w.heap.size ∧ w3.grownBy wr (some w.heap.size))
      (fun _ i _ => s.size - (intOf i).toNat)
    case atStart => exact ⟨0, [], Nat.zero_le _, rfl, hown, hR3a, hg3a⟩
    case round =>
      clear hown hR3a hg3a
      obtain ⟨k, l, hk, rfl, hown, hR, hgr⟩ := hrel
      by_cases hlt : k < s.size
      · have hk0 : (k : Int) < (s.size : Int) := by omega
        go_wp2_with fail
        refine (below_any B _ _ _ hR (by omega) (by omega)).mono ?_
        rintro e w4 ⟨y, rfl, hy0, hy1, hR4, hg4⟩
        have hown4 : w4.ownsRow w3.heap.size 5 1 u6 k (cellsOf l) := hown.kept hg4 (.inr (fun c => by have := (hown.lt _ c).1; omega))
        have hgr4 := grown_trans hgr hg4
        clear hown hR hgr hg4
        go_wp2_with (at_builtin; refine wpList_append_lies _ rfl _ _ 22 rfl w3.heap.size 5 i0 (.int .u8 0) 1 1 Try.underlying22 hi hz0 hz1 hz2 rfl (by decide) u6 k _ rfl (hown4.alloc _) ⟨w4.heap.size, 0, none⟩ 1 1 [_] rfl rfl (World.news_of_block (cs := #[_]) (t := 5) (fr := (0, 0)) (heap_alloc_new w4 _)) (by simp [Value.oneCell']) (by omega) (by unfold maxLen; omega) (by omega) (by have := hgr4.size; simp; omega) (w4.heap.size + 1) (by simp) ?_; intro g5 cap5 w5 hown5 hgrow5 hat hlt5)
        rw [byte_snoc l y hy0 hy1] at hown5
        have R := Rd.append hgr4 rfl hown4 hR4 hgl hgrow5
        clear hown4 hgrow5 hR4 hgr4
        go_roundw
        case rel => exact ⟨k + 1, _, by omega, by go_num, hown5, R.1, R.2⟩
        case measure => simp [intOf]; omega
      · obtain rfl : k = s.size := by omega
        have hcv := fun n => run_convert_own (P := Try.prog) (wr.drewN n) 22 9 5 _ _ _ _ Try.underlying22 Try.underlying5 Try.underlying9 (show (wr.drewN n).ownsRow _ _ _ _ _ _ from hown)
        have hl : l.length = s.size := by have := hown.1; rw [cellsOf_length] at this; omega
        have HL := Lib.hid hl
        have hb4 := hb3.trans (grown_below hgr hBg hB3)
        clear hown hl
        go_wp2
        go_quiet (fail)
        go_wp2
        go_ret2
        exact ⟨s, str l, rfl, hs, by rw [str_size, HL.out]; omega, below_drewN hb4 _⟩

theorem pow_lt (K : Nat) (h : K ≤ 7) : (0 : Int) ≤ 2 ^ (8 * K) - 1 ∧ (2 : Int) ^ (8 * K) - 1 ≤ 4611686018427387902 := by
  rcases K with _ | _ | _ | _ | _ | _ | _ | _ | K <;> first | omega | decide +kernel

set_option maxHeartbeats 1000000 in
theorem draw_numBytes (B : Nat) (a : Option Addr) (len cap : Nat) (w : World) (hB : B ≤ w.heap.size) (h : RdCode B w a len) : Calls Try.prog 22 #[.slice a len cap] w (DrawII B w) := by
  go_enter Try.func22, Try.ntmps22
  go_wp2_with fail
  refine (open_any B a len cap _ hB h).mono ?_
  rintro e w1 ⟨rfl, hR1, hg1⟩
  have hb1 := below_none hg1 hB
  go_wp2_with fail
  refine (off_any B _ 1 7 _ hR1 (by omega) (by omega) (by omega)).mono ?_
  rintro e w2 ⟨k, rfl, hk, hR2, hg2⟩
  have hb2 := hb1.trans (grown_below hg2 hR1.1 hR1.2.1)
  clear hg1 hg2 hb1 hR1
  rcases (show k < 1 ∨ 7 < k ∨ (1 ≤ k ∧ k ≤ 7) by omega) with hk1 | hk7 | ⟨hk1, hk7⟩
  · have e1 : wrap64 (wrap64 256 - 1) = 255 := by decide +kernel
    go_wp2_with fail
    refine (off_any B _ 0 255 _ hR2 (by omega) (by omega) (by omega)).mono ?_
    rintro e w3 ⟨n, rfl, hn, hR3, hg3⟩
    have hb3 := hb2.trans (grown_below hg3 hR2.1 hR2.2.1)
    clear hb2 hg3 e1
    go_wp2
    go_ret2
    exact ⟨n, k, rfl, hn, hk, hb3⟩
  · have e1 : wrap64 (wrap64 72057594037927936 - 1) = 72057594037927935 := by decide +kernel
    go_wp2_with fail
    refine (off_any B _ 0 72057594037927935 _ hR2 (by omega) (by omega) (by omega)).mono ?_
    rintro e w3 ⟨n, rfl, hn, hR3, hg3⟩
    have hb3 := hb2.trans (grown_below hg3 hR2.1 hR2.2.1)
    clear hb2 hg3 e1
    go_wp2
    go_ret2
    exact ⟨n, k, rfl, hn, hk, hb3⟩
  · obtain ⟨K, rfl⟩ : ∃ K : Nat, k = K := ⟨k.toNat, by omega⟩
    have hw := wrap_pow K (by omega)
    have hp := pow_lt K (by omega)
    have HP := Lib.hid hp
    clear hp
    go_wp2_with fail
    refine (off_any B _ 0 _ _ hR2 (by omega) HP.out.1 HP.out.2).mono ?_
    rintro e w3 ⟨n, rfl, hn, hR3, hg3⟩
    have hb3 := hb2.trans (grown_below hg3 hR2.1 hR2.2.1)
    clear hb2 hg3 hw
    go_wp2
    go_ret2
    exact ⟨n, K, rfl, hn, hk, hb3⟩

end Go.Proofs.Ytobjbnefikdlnaa
