/- The contract of the reader's 'hurt': a text a byte longer at most. -/
import Derived.Test.YtmekpinhhmknnaaDoorRd
import Derived.Deep.RegionWith
import Derived.Deep.RegionHeld3
namespace Go.Proofs.YtmekpinhhmknnaaDoor
open Go.RowKit Go.My Go.Lib
set_option linter.unusedVariables false

theorem pick4 (a b c d : UInt8) (x : Int) (h0 : 0 ≤ x) (h1 : x < 4) : ∃ t : ByteArray, (#[Value.string ⟨#[a]⟩, Value.string ⟨#[b]⟩, Value.string ⟨#[c]⟩, Value.string ⟨#[d]⟩] : Array Value)[x.toNat]? = some (.string t) ∧ (∀ h, ([Value.string ⟨#[a]⟩, Value.string ⟨#[b]⟩, Value.string ⟨#[c]⟩, Value.string ⟨#[d]⟩] : List Value)[x.toNat]'h = .string t) ∧ t.size = 1 := by
  rcases four h0 h1 with rfl | rfl | rfl | rfl
  · exact ⟨⟨#[a]⟩, rfl, fun _ => rfl, rfl⟩
  · exact ⟨⟨#[b]⟩, rfl, fun _ => rfl, rfl⟩
  · exact ⟨⟨#[c]⟩, rfl, fun _ => rfl, rfl⟩
  · exact ⟨⟨#[d]⟩, rfl, fun _ => rfl, rfl⟩

theorem hurt_size (s t : ByteArray) (Y : Nat) (h : Y < s.size) (ht : t.size = 1) : (s.extract 0 Y ++ t ++ s.extract (Y + 1) s.size).size ≤ s.size + 1 := by
  rw [ByteArray.size_append, ByteArray.size_append, ByteArray.size_extract, ByteArray.size_extract, ht]
  omega

set_option maxHeartbeats 1000000 in
theorem hurt_any (B g : Nat) (s : ByteArray) (w : World) (h : Rd B w g) (hs : s.size ≤ 100000) : Calls Tryd.prog 47 #[.pointer (some ⟨g, 0, none⟩), .string s] w (DrawnStr (s.size + 1) B g w) := by
  have hs1 : (s.size : Int) ≤ 100000 := by omega
  go_enter Tryd.func47, Tryd.ntmps47
  go_wp2_with fail
  refine (below_any B g _ _ h (by omega) (by omega)).mono ?_
  rintro e w1 ⟨x, rfl, hx0, hx1, hR1, hg1⟩
  have hlt : g < w1.heap.size := by obtain ⟨_, _, a, len, cap, p, hh, _⟩ := hR1; exact (Array.getElem?_eq_some_iff.1 hh).1
  by_cases h1 : x = 1
  · subst h1
    go_wp2_with fail
    refine (below_any B g _ _ hR1 (by omega) (by omega)).mono ?_
    rintro e w2 ⟨y, rfl, hy0, hy1, hR2, hg2⟩
    obtain ⟨Y, rfl⟩ : ∃ Y : Nat, y = Y := ⟨y.toNat, by omega⟩
    have hY : (Y : Int) ≤ s.size := by omega
    go_wp2
    go_ret
    exact ⟨_, rfl, by simp; omega, hR2, grown_trans hg1 hg2⟩
  have e1 : (x == 1) = false := by simpa using h1
  by_cases h2 : x = 2
  · subst h2
    by_cases hz : s.size = 0
    · have hz' : ¬ (0 : Int) < s.size := by omega
      go_wp2
      go_ret
      exact ⟨_, rfl, by omega, hR1, hg1⟩
    have hz' : (0 : Int) < s.size := by omega
    go_wp2_with fail
    refine (below_any B g _ _ hR1 (by omega) (by omega)).mono ?_
    rintro e w2 ⟨y, rfl, hy0, hy1, hR2, hg2⟩
    obtain ⟨Y, rfl⟩ : ∃ Y : Nat, y = Y := ⟨y.toNat, by omega⟩
    have hY : (Y : Int) ≤ s.size := by omega
    have hgg := grown_trans hg1 hg2
    clear hg1 hg2 hR1
    have hlt2 : g < w2.heap.size := by obtain ⟨_, _, a, len, cap, p, hh, _⟩ := hR2; exact (Array.getElem?_eq_some_iff.1 hh).1
    have hYn : Y < s.size := by omega
    have y0 : (0 : Int) ≤ (Y : Int) := by omega
    have y1 : (Y : Int) + 1 ≤ (s.size : Int) := by omega
    have y2 : (0 : Int) ≤ (Y : Int) + 1 := by omega
    have y3 : ((Y : Int) + 1).toNat = Y + 1 := by omega
    have y4 : IntKind.i64.wrap ((Y : Int) + 1) = (Y : Int) + 1 := IntWalk.i64_in _ (by omega)
    have y5 : Y + 1 ≤ s.size := by omega
    have C1 := Lib.hid (fun o => below_any B g 4 (w2.alloc o).drew (hR2.alloc o).drew (by omega) (by omega))
    have C2 := Lib.hid (below_any B g 4 w2.drew hR2.drew (by omega) (by omega))
    go_wp2_with fail
    go_region_with (first
      | (go_at_call 44; (refine (C1.out _).mono ?_; rintro e w3 ⟨z, rfl, hz0, hz1, hR3, hg3⟩; obtain ⟨t, ht, ht', hts⟩ := pick4 0 55 255 32 z hz0 hz1; have hc := cell_of_row w3 w2.heap.size z.toNat _ _ _ ((hg3.block w2.heap.size (by simp) (by simp; omega)).trans (heap_alloc_new w2 _)); rw [ht] at hc; have hts' : (t.size : Int) ≤ 1 := (by omega); have HT := Lib.hid hts; have R := grown_trans hgg (grown_trans (grown_drew (World.grownBy_alloc w2 _ _)) hg3); clear hg3 hts))
      | (go_at_call 44; (refine C2.out.mono ?_; rintro e w3 ⟨z, rfl, hz0, hz1, hR3, hg3⟩; obtain ⟨t, ht, ht', hts⟩ := pick4 0 55 255 32 z hz0 hz1; have hts' : (t.size : Int) ≤ 1 := (by omega); have HT := Lib.hid hts; have R := grown_trans hgg (drew_grown hg3); clear hg3 hts)))
    all_goals (try go_wp2)
    all_goals
      go_ret
      first
        | exact ⟨_, rfl, hurt_size s t Y hYn HT.out, hR3, R⟩
        | exact ⟨_, rfl, hurt_size s t Y hYn HT.out, hR3.alloc _, grown_trans R (World.grownBy_alloc w3 _ _)⟩
  have e2 : (x == 2) = false := by simpa using h2
  by_cases h3 : x = 3
  · subst h3
    go_wp2_with fail
    refine (below_any B g _ _ (hR1.kept (World.grownBy_alloc w1 _ none) (by simp) (by simp)) (by omega) (by omega)).mono ?_
    rintro e w2 ⟨y, rfl, hy0, hy1, hR2, hg2⟩
    have hblk := (hg2.block w1.heap.size (by simp) (by simp; omega)).trans (heap_alloc_new w1 _)
    have hc := cell_of_row w2 w1.heap.size y.toNat _ _ _ hblk
    obtain ⟨t, ht, ht', hts⟩ := pick4 0 49 10 32 y hy0 hy1
    rw [ht] at hc
    have hts' : (t.size : Int) ≤ 1 := by omega
    have R := grown_trans hg1 (grown_trans (World.grownBy_alloc w1 _ _) hg2)
    have HT := Lib.hid hts
    clear hg1 hg2 hblk hR1 ht ht' hts
    go_wp2
    go_ret
    exact ⟨s ++ t, rfl, by rw [ByteArray.size_append, HT.out]; exact Nat.le_refl _, hR2, R⟩
  have e3 : (x == 3) = false := by simpa using h3
  clear h1 h2 h3
  go_wp2
  go_ret
  exact ⟨_, rfl, by omega, hR1, hg1⟩

end Go.Proofs.YtmekpinhhmknnaaDoor
