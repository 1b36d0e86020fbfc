/- The contracts of bit, inverse, readField, and of the field's functions of the program. -/
import Derived.Test.YtdhfddeghnoecaaDoorFld3
import Derived.Test.YtdhfddeghnoecaaDoorFld4
namespace Go.Proofs.YtdhfddeghnoecaaDoor
open Go.RowKit Go.My Go.Lib
set_option linter.unusedVariables false

theorem lw_eq (n q : Nat) (h : q < 4) : lw n q = n / 2 ^ (64 * q) % 18446744073709551616 := by
  match q with
  | 0 => simp [lw]
  | 1 => rfl
  | 2 => rfl
  | 3 => rfl
theorem bit_nat (n i : Nat) (h : i < 256) : lw n (i / 64) / 2 ^ (i % 64) % 2 = n / 2 ^ i % 2 := by
  rw [lw_eq n (i / 64) (by omega)]
  have hp : (18446744073709551616 : Nat) = 2 ^ (i % 64) * 2 ^ (64 - i % 64) := by rw [← Nat.pow_add, show i % 64 + (64 - i % 64) = 64 by omega]
  rw [hp, Nat.mod_mul_right_div_self, Nat.div_div_eq_div_mul, ← Nat.pow_add, show 64 * (i / 64) + i % 64 = i by omega]
  obtain ⟨m, hm⟩ : ∃ m, 64 - i % 64 = m + 1 := ⟨63 - i % 64, by omega⟩
  rw [hm, Nat.pow_succ, Nat.mul_comm, Nat.mod_mul_right_mod]

theorem bitE (X r : Nat) (h : X < U64) : (bits .and .u64 ((X : Int) / 2 ^ r) 1 == 1) = decide (X / 2 ^ r % 2 = 1) := by
  have e : (X : Int) / 2 ^ r = ((X / 2 ^ r : Nat) : Int) := by rw [Int.natCast_ediv, Int.natCast_pow]; rfl
  have hl : X / 2 ^ r < 18446744073709551616 := Nat.lt_of_le_of_lt (Nat.div_le_self _ _) h
  have h1 := u64_and_nat (X / 2 ^ r) 1 hl (by omega)
  rw [Nat.and_one_is_mod] at h1
  rw [e, show (1 : Int) = ((1 : Nat) : Int) from rfl, h1]
  by_cases c : X / 2 ^ r % 2 = 1
  · rw [c]; rfl
  · rw [decide_eq_false c]; exact beq_eq_false_iff_ne.2 (by omega)

set_option maxHeartbeats 1000000 in
theorem bit_any (n i : Nat) (w : World) (hi : i < 256) :
    Calls Tryd.prog 66 #[.agg (fldA n), .int .i64 i] w fun e w' => e = .returned (.bool (decide (n / 2 ^ i % 2 = 1))) ∧ Below w.heap.size w w' := by
  have HGA : Hid (fldA n = rwA .u64 4 (fun q => (lw n q : Int))) := rfl
  have hc := (cell_of_row (w.alloc (.cells (rwA .u64 4 (fun q => (lw n q : Int))) 60)) w.heap.size (i / 64) _ _ _ (heap_alloc_new w _)).trans (rwA_get .u64 4 _ (i / 64) (by omega))
  have i0 : (0 : Int) ≤ (i : Int) := by omega
  have i1 : (i : Int) < 256 := by omega
  have q0 : (0 : Int) ≤ (i : Int) / 64 := by omega
  have q1 : (i : Int) / 64 < 4 := by omega
  have qt : ((i : Int) / 64).toNat = i / 64 := by omega
  have r0 : (0 : Int) ≤ (i : Int) % 64 := by omega
  have r1 : (i : Int) % 64 < 64 := by omega
  have rt : ((i : Int) % 64).toNat = i % 64 := by omega
  rw [← bit_nat n i hi, HGA.out]
  have HL := Lib.hid (lw_lt n (i / 64))
  generalize lw n (i / 64) = X at *
  go_enter Tryd.func66, Tryd.ntmps66
  go_wp2
  rw [bitE X (i % 64) HL.out]
  go_ret
  exact ⟨rfl, (Below.refl _ _).alloc (Nat.le_refl _) _⟩

def E25 : Nat := P25n - 2
theorem exp_row : #[Value.int .u64 18446744073709551595, Value.int .u64 18446744073709551615, Value.int .u64 18446744073709551615, Value.int .u64 9223372036854775807] = fldA E25 := by kernel_rfl
theorem one_row : #[Value.int .u64 1, Value.int .u64 0, Value.int .u64 0, Value.int .u64 0] = fldA 1 := by kernel_rfl
theorem TabP.lit {w : World} (h : TabP w) : w.cell? ⟨0, 0, none⟩ = some (.int .u64 18446744073709551597) ∧ w.cell? ⟨0, 1, none⟩ = some (.int .u64 18446744073709551615) ∧ w.cell? ⟨0, 2, none⟩ = some (.int .u64 18446744073709551615) ∧ w.cell? ⟨0, 3, none⟩ = some (.int .u64 9223372036854775807) :=
  ⟨(h.2 0 (by omega)).trans (by kernel_rfl), (h.2 1 (by omega)).trans (by kernel_rfl), (h.2 2 (by omega)).trans (by kernel_rfl), (h.2 3 (by omega)).trans (by kernel_rfl)⟩

theorem sq_mod (a e p : Nat) : a ^ e % p * (a ^ e % p) % p = a ^ (2 * e) % p := by rw [← Nat.mul_mod, ← Nat.pow_add, Nat.two_mul]
theorem sm_mod (a e p : Nat) : a ^ e % p * a % p = a ^ (e + 1) % p := by rw [Nat.pow_succ, Nat.mul_mod (a ^ e) a, Nat.mul_mod (a ^ e % p) a, Nat.mod_mod]
theorem half (E m : Nat) : E / 2 ^ m = 2 * (E / 2 ^ (m + 1)) + E / 2 ^ m % 2 := by
  rw [Nat.pow_succ, ← Nat.div_div_eq_div_mul]
  omega
theorem modP_lt (x : Nat) : x % P25n < W256 := Nat.lt_of_lt_of_le (Nat.mod_lt _ (by decide)) (by decide)
theorem fsame (x y : Nat) : (fldA x).size = (fldA y).size := by rw [fldA, fldA, rwA_size, rwA_size]
theorem gr_fld {w w2 : World} {g : Nat} (h : w.grownBy w2 (some g)) (k : Nat) (hk : k < w.heap.size) (hne : k ≠ g) : w2.heap[k]? = w.heap[k]? := h.block k hk (by simpa using hne)

set_option maxHeartbeats 2000000 in
theorem inverse_any (a : Nat) (w : World) (ha : a < W256) (hp : TabP w) :
    Calls Tryd.prog 69 #[.agg (fldA a)] w fun e w' => e = .returned (.agg (fldA (a ^ E25 % P25n))) ∧ Below w.heap.size w w' := by
  have HFN := Lib.hid (fun m => fszN m)
  have hb0 : Below w.heap.size w ((w.alloc (.cells (fldA a) 60)).alloc (.cells Z4 60)) := ((Below.refl _ _).alloc (Nat.le_refl _) _).alloc (by simp) _
  obtain ⟨k0, k1, k2, k3⟩ := (hp.below hb0 hp.1).lit
  clear hb0
  go_enter Tryd.func69, Tryd.ntmps69
  go_wp2
  have H1N := Lib.hid (fun m => oneN m)
  have HZN := Lib.hid (fun m => zszN m)
  have HTM := Lib.hid (fun x y wx hx hy ht => times_any x y wx hx hy ht)
  have HBT := Lib.hid (fun i wx hi => bit_any E25 i wx hi)
  have HA := Lib.hid ha
  clear ha k0 k1 k2 k3
  go_loopw [5] (fun i wr => ∃ k : Nat, k ≤ 255 ∧ i = .int .i64 ((k : Int) - 1) ∧ wr.heap[w.heap.size + 1 + 1 + 1]? = some (.cells (fldA (a ^ (E25 / 2 ^ k) % P25n)) 60 (0, 0)) ∧ wr.heap[w.heap.size + 1 + 1]? = some (.cells (fldA E25) 60 (0, 0)) ∧ wr.heap[w.heap.size]? = some (.cells (fldA a) 60 (0, 0)) ∧ wr.heap[w.heap.size + 1]? = some (.cells Z4 60 (0, 0)) ∧ Below w.heap.size w wr)
    (fun i _ => (intOf i + 1).toNat)
  case atStart =>
    refine ⟨255, by omega, rfl, ?_, ?_, al4_0 w _ _ _ _, al4_1 w _ _ _ _, ((((Below.refl _ _).alloc (Nat.le_refl _) _).alloc (by simp) _).alloc (by simp; omega) _).alloc (by simp; omega) _⟩
    · rw [show E25 / 2 ^ 255 = 0 by decide +kernel, Nat.pow_zero, show 1 % P25n = 1 by decide +kernel, ← one_row]
      exact al4_3 w _ _ _ _
    · rw [← exp_row]
      exact al4_2 w _ _ _ _
  case round =>
    obtain ⟨k, hk, rfl, ho, hex, haa, hz, hb⟩ := hrel
    by_cases hlt : 0 < k
    · obtain ⟨m, rfl⟩ : ∃ m, k = m + 1 := ⟨k - 1, by omega⟩
      have hme : ((m + 1 : Nat) : Int) - 1 = (m : Int) := by omega
      rw [hme]
      have m0 : (0 : Int) ≤ (m : Int) := by omega
      have m1 : (m : Int) ≤ 254 := by omega
      have HK := Lib.hid hk
      have HX2 := Lib.hid (sq_mod a (E25 / 2 ^ (m + 1)) P25n)
      have hgl : w.heap.size + 1 + 1 + 1 < wr.heap.size := (Array.getElem?_eq_some_iff.1 ho).1
      have HGL := Lib.hid hgl
      have HT := Lib.hid (hp.below hb hp.1)
      clear hk hlt hme hgl
      go_wp2_with (first
        | with_reducible refine wpList_load_row (o := ⟨some 21, _, _, _, _, _⟩) rfl 60 _ rfl (w.heap.size + 1 + 1 + 1) rfl 60 (fldA (a ^ (E25 / 2 ^ (m + 1)) % P25n)) (0, 0) (.array 4 58) ho Tryd.underlying60 rfl (HFN.out _) ?_
        | with_reducible refine wpList_load_row (o := ⟨some 22, _, _, _, _, _⟩) rfl 60 _ rfl (w.heap.size + 1 + 1 + 1) rfl 60 (fldA (a ^ (E25 / 2 ^ (m + 1)) % P25n)) (0, 0) (.array 4 58) ho Tryd.underlying60 rfl (HFN.out _) ?_
        | fail)
      refine (HTM.out _ _ _ (modP_lt _) (modP_lt _) HT.out).mono ?_
      rintro e w2 ⟨rfl, hb2⟩
      rw [HX2.out]
      have ho2 : w2.heap[w.heap.size + 1 + 1 + 1]? = some (.cells (fldA (a ^ (E25 / 2 ^ (m + 1)) % P25n)) 60 (0, 0)) := (hb2.block _ HGL.out).trans ho
      have hex2 : w2.heap[w.heap.size + 1 + 1]? = some (.cells (fldA E25) 60 (0, 0)) := (hb2.block _ (by have := HGL.out; omega)).trans hex
      have haa2 : w2.heap[w.heap.size]? = some (.cells (fldA a) 60 (0, 0)) := (hb2.block _ (by have := HGL.out; omega)).trans haa
      have hz2 : w2.heap[w.heap.size + 1]? = some (.cells Z4 60 (0, 0)) := (hb2.block _ (by have := HGL.out; omega)).trans hz
      have hgl2 : w.heap.size + 1 + 1 + 1 < w2.heap.size := Nat.lt_of_lt_of_le HGL.out hb2.size
      have hbw2 := hb.trans (hb2.mono hb.size)
      have HGL2 := Lib.hid hgl2
      clear ho hex haa hz hb hb2 HGL HT hgl2
      go_wp2_with (first
        | ((with_reducible refine wpList_store_row' (o := ⟨none, .store 60 _ _, _, _, _, _⟩) rfl 60 _ _ rfl (w.heap.size + 1 + 1 + 1) (fldA (a ^ (2 * (E25 / 2 ^ (m + 1))) % P25n)) rfl rfl 60 (fldA (a ^ (E25 / 2 ^ (m + 1)) % P25n)) ho2 (HFN.out _) (fsame _ _) (H1N.out _) ?_); intro w3 hw3 hs3 hg3; have hex3 : w3.heap[w.heap.size + 1 + 1]? = some (.cells (fldA E25) 60 (0, 0)) := (gr_fld hg3 _ (by have := HGL2.out; omega) (by omega)).trans hex2)
        | with_reducible refine wpList_load_row (o := ⟨some 24, _, _, _, _, _⟩) rfl 60 _ rfl (w.heap.size + 1 + 1) rfl 60 (fldA E25) (0, 0) (.array 4 58) hex3 Tryd.underlying60 rfl (HFN.out _) ?_
        | fail)
      have haa3 : w3.heap[w.heap.size]? = some (.cells (fldA a) 60 (0, 0)) := (gr_fld hg3 _ (by have := HGL2.out; omega) (by omega)).trans haa2
      have hz3 : w3.heap[w.heap.size + 1]? = some (.cells Z4 60 (0, 0)) := (gr_fld hg3 _ (by have := HGL2.out; omega) (by omega)).trans hz2
      have hbw3 : Below w.heap.size w w3 := hbw2.grown hg3 hbw2.size (by intro k hk; have := Option.some.inj hk; omega)
      have hgl3 : w.heap.size + 1 + 1 + 1 < w3.heap.size := (Array.getElem?_eq_some_iff.1 hw3).1
      have HGL3 := Lib.hid hgl3
      clear ho2 hex2 haa2 hz2 hbw2 HGL2 hgl3 hs3 hg3
      refine (HBT.out m _ (by omega)).mono ?_
      rintro e w4 ⟨rfl, hb4⟩
      have hw4 : w4.heap[w.heap.size + 1 + 1 + 1]? = some (.cells (fldA (a ^ (2 * (E25 / 2 ^ (m + 1))) % P25n)) 60 (0, 0)) := (hb4.block _ HGL3.out).trans hw3
      have hex4 : w4.heap[w.heap.size + 1 + 1]? = some (.cells (fldA E25) 60 (0, 0)) := (hb4.block _ (by have := HGL3.out; omega)).trans hex3
      have haa4 : w4.heap[w.heap.size]? = some (.cells (fldA a) 60 (0, 0)) := (hb4.block _ (by have := HGL3.out; omega)).trans haa3
      have hz4 : w4.heap[w.heap.size + 1]? = some (.cells Z4 60 (0, 0)) := (hb4.block _ (by have := HGL3.out; omega)).trans hz3
      have hbw4 := hbw3.trans (hb4.mono hbw3.size)
      have hgl4 : w.heap.size + 1 + 1 + 1 < w4.heap.size := Nat.lt_of_lt_of_le HGL3.out hb4.size
      have HGL4 := Lib.hid hgl4
      clear hw3 hex3 haa3 hz3 hbw3 hb4 HGL3 hgl4
      have hhalf := half E25 m
      by_cases hbit : E25 / 2 ^ m % 2 = 1
      · have HE : Hid (a ^ (2 * (E25 / 2 ^ (m + 1))) % P25n * a % P25n = a ^ (E25 / 2 ^ m) % P25n) := by show _ = _; rw [sm_mod, hhalf, hbit]
        rw [decide_eq_true hbit]
        have HT4 := Lib.hid (hp.below hbw4 hp.1)
        clear hbit hhalf
        go_wp2_with (first
          | with_reducible refine wpList_load_row (o := ⟨some 27, _, _, _, _, _⟩) rfl 60 _ rfl (w.heap.size + 1 + 1 + 1) rfl 60 (fldA (a ^ (2 * (E25 / 2 ^ (m + 1))) % P25n)) (0, 0) (.array 4 58) hw4 Tryd.underlying60 rfl (HFN.out _) ?_
          | with_reducible refine wpList_load_row (o := ⟨some 28, _, _, _, _, _⟩) rfl 60 _ rfl w.heap.size rfl 60 (fldA a) (0, 0) (.array 4 58) haa4 Tryd.underlying60 rfl (HFN.out _) ?_
          | fail)
        refine (HTM.out _ _ _ (modP_lt _) HA.out HT4.out).mono ?_
        rintro e w5 ⟨rfl, hb5⟩
        rw [HE.out]
        have hw5 : w5.heap[w.heap.size + 1 + 1 + 1]? = some (.cells (fldA (a ^ (2 * (E25 / 2 ^ (m + 1))) % P25n)) 60 (0, 0)) := (hb5.block _ HGL4.out).trans hw4
        have hex5 : w5.heap[w.heap.size + 1 + 1]? = some (.cells (fldA E25) 60 (0, 0)) := (hb5.block _ (by have := HGL4.out; omega)).trans hex4
        have haa5 : w5.heap[w.heap.size]? = some (.cells (fldA a) 60 (0, 0)) := (hb5.block _ (by have := HGL4.out; omega)).trans haa4
        have hz5 : w5.heap[w.heap.size + 1]? = some (.cells Z4 60 (0, 0)) := (hb5.block _ (by have := HGL4.out; omega)).trans hz4
        have hbw5 := hbw4.trans (hb5.mono hbw4.size)
        have HGL5 := Lib.hid (Nat.lt_of_lt_of_le HGL4.out hb5.size)
        clear hw4 hex4 haa4 hz4 hbw4 hb5 HGL4 HT4
        go_wp2_with (first
          | ((with_reducible refine wpList_store_row' (o := ⟨none, .store 60 _ _, _, _, _, _⟩) rfl 60 _ _ rfl (w.heap.size + 1 + 1 + 1) (fldA (a ^ (E25 / 2 ^ m) % P25n)) rfl rfl 60 (fldA (a ^ (2 * (E25 / 2 ^ (m + 1))) % P25n)) hw5 (HFN.out _) (fsame _ _) (H1N.out _) ?_); intro w6 hw6 hs6 hg6)
          | fail)
        have hex6 : w6.heap[w.heap.size + 1 + 1]? = some (.cells (fldA E25) 60 (0, 0)) := (gr_fld hg6 _ (by have := HGL5.out; omega) (by omega)).trans hex5
        have haa6 : w6.heap[w.heap.size]? = some (.cells (fldA a) 60 (0, 0)) := (gr_fld hg6 _ (by have := HGL5.out; omega) (by omega)).trans haa5
        have hz6 : w6.heap[w.heap.size + 1]? = some (.cells Z4 60 (0, 0)) := (gr_fld hg6 _ (by have := HGL5.out; omega) (by omega)).trans hz5
        have hbw6 : Below w.heap.size w w6 := hbw5.grown hg6 hbw5.size (by intro k hk; have := Option.some.inj hk; omega)
        clear hw5 hex5 haa5 hz5 hbw5 HGL5 hs6 hg6
        go_roundw
        case rel => exact ⟨m, by have := HK.out; omega, by go_num, hw6, hex6, haa6, hz6, hbw6⟩
        case measure => first | (simp [intOf]; omega) | simp [intOf]
      · have HE : Hid (a ^ (2 * (E25 / 2 ^ (m + 1))) % P25n = a ^ (E25 / 2 ^ m) % P25n) := by show _ = _; rw [show E25 / 2 ^ m % 2 = 0 by omega, Nat.add_zero] at hhalf; rw [← hhalf]
        rw [decide_eq_false hbit]
        clear hbit hhalf
        rw [HE.out] at hw4
        go_wp2
        go_roundw
        case rel => exact ⟨m, by have := HK.out; omega, by go_num, hw4, hex4, haa4, hz4, hbw4⟩
        case measure => first | (simp [intOf]; omega) | simp [intOf]
    · have hke : k = 0 := by omega
      subst hke
      rw [Nat.pow_zero, Nat.div_one] at ho
      clear hlt hk
      generalize hR : a ^ E25 % P25n = R at *
      have HR := Lib.hid hR
      clear hR
      go_wp2_with (first
        | with_reducible refine wpList_load_row (o := ⟨some 30, _, _, _, _, _⟩) rfl 60 _ rfl (w.heap.size + 1 + 1 + 1) rfl 60 (fldA R) (0, 0) (.array 4 58) ho Tryd.underlying60 rfl (HFN.out _) ?_
        | with_reducible (refine wpList_store_row (o := ⟨none, .store 60 _ _, _, _, _, _⟩) rfl 60 _ _ rfl (w.heap.size + 1) (fldA R) rfl rfl 60 Z4 hz (HFN.out _) (HZN.out _) (H1N.out _) ?_))
      have hrow := setRow_heap wr (w.heap.size + 1) Z4 (fldA R) 60 (0, 0) hz
      refine bodyPost_ret (v := .agg (fldA R)) ?_ rfl ⟨by rw [HR.out], ?_⟩
      · exact results_cell_row Tryd.results69 _ _ (w.heap.size + 1) 60 _ (0, 0) _ rfl hrow Tryd.underlying60 rfl (HFN.out _)
      · exact hb.trans ⟨rfl, rfl, rfl, by simp, fun k hk => setRow_other wr (w.heap.size + 1) k _ (by omega)⟩

end Go.Proofs.YtdhfddeghnoecaaDoor
