/- The contracts of the specification's FieldMul, l3Power, FieldInv. -/
import Derived.Test.YtfbcmckepdjdkaaDoorGLim7
import Derived.Test.YtfbcmckepdjdkaaDoorGLim3
namespace Go.Proofs.YtfbcmckepdjdkaaDoor
open Go.RowKit Go.My Go.Lib
set_option linter.unusedVariables false

theorem rN_cast (h : Nat → Int) : ((rN h : Nat) : Int) = VL h % 57896044618658097711785492504343953926634992332820282019728792003956564819949 := by unfold rN; omega
theorem rN_prod (a b : Nat → Int) : rN (mulL a b) = rN a * rN b % P25n := by
  obtain ⟨k, hk⟩ := mulL_mod a b
  have h1 : ((rN (mulL a b) : Nat) : Int) = (VL a * VL b) % 57896044618658097711785492504343953926634992332820282019728792003956564819949 := by
    rw [rN_cast, hk]
    generalize VL a * VL b = z
    omega
  rw [Int.mul_emod, ← rN_cast, ← rN_cast, ← Int.natCast_mul] at h1
  unfold P25n
  generalize rN a * rN b = z at *
  omega
theorem rN_digp (x : Nat) (h : x < P25n) : rN (digZ x) = x := by
  rw [rN_dig]
  unfold P25n at *
  omega
theorem rN_mul (x y : Nat) (hx : x < P25n) (hy : y < P25n) : rN (mulL (digZ x) (digZ y)) = x * y % P25n := by rw [rN_prod, rN_digp x hx, rN_digp y hy]
def oneF (q : Nat) : Int := if q = 0 then 1 else 0
theorem oneF_mid : Mid oneF := fun q _ => by unfold oneF; split <;> omega
theorem oneF_rN : rN oneF = 1 := by decide +kernel
theorem one_l10 : #[Value.int .i64 1, Value.int .i64 0, Value.int .i64 0, Value.int .i64 0, Value.int .i64 0, Value.int .i64 0, Value.int .i64 0, Value.int .i64 0, Value.int .i64 0, Value.int .i64 0] = rwA .i64 10 oneF := rfl
theorem e_bit (m : Nat) (h : m < 255) : E25 / 2 ^ m % 2 = if m = 2 ∨ m = 4 then 0 else 1 := by
  have h2 : ∀ m, m < 255 → E25 / 2 ^ m % 2 = if m = 2 ∨ m = 4 then 0 else 1 := by decide +kernel
  exact h2 m h

set_option maxRecDepth 100000 in
set_option maxHeartbeats 4000000 in
theorem power_any (a : Nat → Int) (w : World) (ha : Mid a) :
    Calls Tryd.prog 174 #[.agg (rwA .i64 10 a)] w fun e w' => ∃ o : Nat → Int, e = .returned (.agg (rwA .i64 10 o)) ∧ Mid o ∧ rN o = rN a ^ E25 % P25n ∧ Below w.heap.size w w' := by
  have HA := Lib.hid ha
  clear ha
  go_enter Tryd.func174, Tryd.ntmps174
  go_wp2
  go_loopw [4] (fun x wr => ∃ k : Nat, ∃ o : Nat → Int, k ≤ 255 ∧ x = .int .i64 ((k : Int) - 1) ∧ Mid o ∧ rN o = rN a ^ (E25 / 2 ^ k) % P25n ∧ wr.heap[w.heap.size + 1 + 1]? = some (.cells (rwA .i64 10 o) 134 (0, 0)) ∧ wr.heap[w.heap.size]? = some (.cells (rwA .i64 10 a) 134 (0, 0)) ∧ wr.heap[w.heap.size + 1]? = some (.cells Z10 134 (0, 0)) ∧ Below w.heap.size w wr)
    (fun x _ => (intOf x + 1).toNat)
  case atStart =>
    refine ⟨255, oneF, by omega, rfl, oneF_mid, ?_, ?_, al3_0 w _ _ _, al3_1 w _ _ _, (((Below.refl _ _).alloc (Nat.le_refl _) _).alloc (by simp) _).alloc (by simp; omega) _⟩
    · rw [show E25 / 2 ^ 255 = 0 by decide +kernel, Nat.pow_zero, oneF_rN]; decide +kernel
    · rw [← one_l10]; exact al3_2 w _ _ _
  case round =>
    obtain ⟨k, o, hk, rfl, hm, hr, ho, hra, hz, hb⟩ := hrel
    by_cases hlt : 0 < k
    · obtain ⟨m, rfl⟩ : ∃ m, k = m + 1 := ⟨k - 1, by omega⟩
      have hme : ((m + 1 : Nat) : Int) - 1 = (m : Int) := by omega
      rw [hme]
      have m0 : (0 : Int) ≤ (m : Int) := by omega
      have m1 : (m : Int) ≤ 254 := by omega
      have HK := Lib.hid hk
      have HM := Lib.hid hm
      have HM2 := Lib.hid (mulL_low o o hm hm).mid
      have HR2 : Hid (rN (mulL o o) = rN a ^ (2 * (E25 / 2 ^ (m + 1))) % P25n) := by show _ = _; rw [rN_prod, hr, sq_mod]
      have hgl : w.heap.size + 1 + 1 < wr.heap.size := (Array.getElem?_eq_some_iff.1 ho).1
      have HGL := Lib.hid hgl
      clear hk hlt hme hgl hr hm
      go_wp2_with (first
        | with_reducible refine wpList_load_row (o := ⟨some 10, _, _, _, _, _⟩) rfl 134 _ rfl (w.heap.size + 1 + 1) rfl 134 (rwA .i64 10 o) (0, 0) (.array 10 2) ho Tryd.underlying134 rfl (l10sz _) ?_
        | with_reducible refine wpList_load_row (o := ⟨some 11, _, _, _, _, _⟩) rfl 134 _ rfl (w.heap.size + 1 + 1) rfl 134 (rwA .i64 10 o) (0, 0) (.array 10 2) ho Tryd.underlying134 rfl (l10sz _) ?_
        | fail)
      refine (mulL_any o o _ HM.out HM.out).mono ?_
      rintro e w2 ⟨rfl, hb2⟩
      have ho2 : w2.heap[w.heap.size + 1 + 1]? = some (.cells (rwA .i64 10 o) 134 (0, 0)) := (hb2.block _ HGL.out).trans ho
      have hra2 : w2.heap[w.heap.size]? = some (.cells (rwA .i64 10 a) 134 (0, 0)) := (hb2.block _ (by have := HGL.out; omega)).trans hra
      have hz2 : w2.heap[w.heap.size + 1]? = some (.cells Z10 134 (0, 0)) := (hb2.block _ (by have := HGL.out; omega)).trans hz
      have hbw2 := hb.trans (hb2.mono hb.size)
      have HGL2 := Lib.hid (Nat.lt_of_lt_of_le HGL.out hb2.size)
      clear ho hra hz hb hb2 HGL
      generalize mulL o o = o2 at *
      have hhalf := half E25 m
      have heb := e_bit m (by omega)
      by_cases hbit : m = 2 ∨ m = 4
      · rw [if_pos hbit] at heb
        have HE : Hid (rN o2 = rN a ^ (E25 / 2 ^ m) % P25n) := by show _ = _; rw [HR2.out, hhalf, heb]; rfl
        have HX : Hid (Mid o2) := HM2.out
        clear hhalf heb
        rcases hbit with rfl | rfl
        all_goals
          go_wp2_with (first
            | ((with_reducible refine wpList_store_row' (o := ⟨none, .store 134 _ _, _, _, _, _⟩) rfl 134 _ _ rfl (w.heap.size + 1 + 1) (rwA .i64 10 o2) rfl rfl 134 (rwA .i64 10 o) ho2 (l10sz _) (l10same _ _) (l10one _) ?_); intro w3 hw3 hs3 hg3)
            | fail)
          have hra3 : w3.heap[w.heap.size]? = some (.cells (rwA .i64 10 a) 134 (0, 0)) := (gr_l10 hg3 _ (by have := HGL2.out; omega) (by omega)).trans hra2
          have hz3 : w3.heap[w.heap.size + 1]? = some (.cells Z10 134 (0, 0)) := (gr_l10 hg3 _ (by have := HGL2.out; omega) (by omega)).trans hz2
          have hbw3 : Below w.heap.size w w3 := hbw2.grown hg3 hbw2.size (by intro k hk; have := Option.some.inj hk; omega)
          clear ho2 hra2 hz2 hbw2 HGL2 hs3 hg3
          go_roundw
          case rel => exact ⟨_, o2, by omega, by first | rfl | go_num, HX.out, HE.out, hw3, hra3, hz3, hbw3⟩
          case measure => first | (simp [intOf]; omega) | simp [intOf]
      · rw [if_neg hbit] at heb
        have n2 : ((m : Int) != 2) = true := bne_iff_ne.2 (by omega)
        have n4 : ((m : Int) != 4) = true := bne_iff_ne.2 (by omega)
        have HE : Hid (rN (mulL o2 a) = rN a ^ (E25 / 2 ^ m) % P25n) := by
          show _ = _
          rw [rN_prod, HR2.out, hhalf, heb]
          have := sm_mod (rN a) (2 * (E25 / 2 ^ (m + 1))) P25n
          rw [← this]
        have HX := Lib.hid (mulL_low o2 a HM2.out HA.out).mid
        clear hhalf heb hbit
        go_wp2_with (first
          | ((with_reducible refine wpList_store_row' (o := ⟨none, .store 134 _ _, _, _, _, _⟩) rfl 134 _ _ rfl (w.heap.size + 1 + 1) (rwA .i64 10 o2) rfl rfl 134 (rwA .i64 10 o) ho2 (l10sz _) (l10same _ _) (l10one _) ?_); intro w3 hw3 hs3 hg3; have hra3 : w3.heap[w.heap.size]? = some (.cells (rwA .i64 10 a) 134 (0, 0)) := (gr_l10 hg3 _ (by have := HGL2.out; omega) (by omega)).trans hra2)
          | with_reducible refine wpList_load_row (o := ⟨some 19, _, _, _, _, _⟩) rfl 134 _ rfl (w.heap.size + 1 + 1) rfl 134 (rwA .i64 10 o2) (0, 0) (.array 10 2) hw3 Tryd.underlying134 rfl (l10sz _) ?_
          | with_reducible refine wpList_load_row (o := ⟨some 20, _, _, _, _, _⟩) rfl 134 _ rfl w.heap.size rfl 134 (rwA .i64 10 a) (0, 0) (.array 10 2) hra3 Tryd.underlying134 rfl (l10sz _) ?_
          | fail)
        have hz3 : w3.heap[w.heap.size + 1]? = some (.cells Z10 134 (0, 0)) := (gr_l10 hg3 _ (by have := HGL2.out; omega) (by omega)).trans hz2
        have hbw3 : Below w.heap.size w w3 := hbw2.grown hg3 hbw2.size (by intro k hk; have := Option.some.inj hk; omega)
        have HGL3 := Lib.hid (Array.getElem?_eq_some_iff.1 hw3).1
        clear ho2 hra2 hz2 hbw2 HGL2 hs3 hg3
        refine (mulL_any o2 a _ HM2.out HA.out).mono ?_
        rintro e w5 ⟨rfl, hb5⟩
        have hw5 : w5.heap[w.heap.size + 1 + 1]? = some (.cells (rwA .i64 10 o2) 134 (0, 0)) := (hb5.block _ HGL3.out).trans hw3
        have hra5 : w5.heap[w.heap.size]? = some (.cells (rwA .i64 10 a) 134 (0, 0)) := (hb5.block _ (by have := HGL3.out; omega)).trans hra3
        have hz5 : w5.heap[w.heap.size + 1]? = some (.cells Z10 134 (0, 0)) := (hb5.block _ (by have := HGL3.out; omega)).trans hz3
        have hbw5 := hbw3.trans (hb5.mono hbw3.size)
        have HGL5 := Lib.hid (Nat.lt_of_lt_of_le HGL3.out hb5.size)
        clear hw3 hra3 hz3 hbw3 hb5 HGL3
        generalize mulL o2 a = o5 at *
        go_wp2_with (first
          | ((with_reducible refine wpList_store_row' (o := ⟨none, .store 134 _ _, _, _, _, _⟩) rfl 134 _ _ rfl (w.heap.size + 1 + 1) (rwA .i64 10 o5) rfl rfl 134 (rwA .i64 10 o2) hw5 (l10sz _) (l10same _ _) (l10one _) ?_); intro w6 hw6 hs6 hg6)
          | fail)
        have hra6 : w6.heap[w.heap.size]? = some (.cells (rwA .i64 10 a) 134 (0, 0)) := (gr_l10 hg6 _ (by have := HGL5.out; omega) (by omega)).trans hra5
        have hz6 : w6.heap[w.heap.size + 1]? = some (.cells Z10 134 (0, 0)) := (gr_l10 hg6 _ (by have := HGL5.out; omega) (by omega)).trans hz5
        have hbw6 : Below w.heap.size w w6 := hbw5.grown hg6 hbw5.size (by intro k hk; have := Option.some.inj hk; omega)
        clear hw5 hra5 hz5 hbw5 HGL5 hs6 hg6
        go_roundw
        case rel => exact ⟨m, o5, by have := HK.out; omega, by go_num, HX.out, HE.out, hw6, hra6, hz6, hbw6⟩
        case measure => first | (simp [intOf]; omega) | simp [intOf]
    · have hke : k = 0 := by omega
      subst hke
      rw [Nat.pow_zero, Nat.div_one] at hr
      have HRR := Lib.hid (And.intro hm hr)
      clear hlt hk hm hr
      go_wp2_with (first
        | with_reducible refine wpList_load_row (o := ⟨some 22, _, _, _, _, _⟩) rfl 134 _ rfl (w.heap.size + 1 + 1) rfl 134 (rwA .i64 10 o) (0, 0) (.array 10 2) ho Tryd.underlying134 rfl (l10sz _) ?_
        | with_reducible (refine wpList_store_row (o := ⟨none, .store 134 _ _, _, _, _, _⟩) rfl 134 _ _ rfl (w.heap.size + 1) (rwA .i64 10 o) rfl rfl 134 Z10 hz (l10sz _) (z10sz _) (l10one _) ?_))
      have hrow := setRow_heap wr (w.heap.size + 1) Z10 (rwA .i64 10 o) 134 (0, 0) hz
      refine bodyPost_ret (v := .agg (rwA .i64 10 o)) ?_ rfl ⟨o, rfl, HRR.out.1, HRR.out.2, ?_⟩
      · exact results_cell_row Tryd.results174 _ _ (w.heap.size + 1) 134 _ (0, 0) _ rfl hrow Tryd.underlying134 rfl (l10sz _)
      · exact hb.trans ⟨rfl, rfl, rfl, by simp, fun k hk => setRow_other wr (w.heap.size + 1) k _ (by omega)⟩

end Go.Proofs.YtfbcmckepdjdkaaDoor
