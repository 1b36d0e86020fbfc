import Derived.Test.YtfbcmckepdjdkaaDoorGFld3
import Derived.Test.YtfbcmckepdjdkaaDoorGM1
import Derived.Laws.StructEq
import Derived.Laws.ResultCell
import Derived.Deep.Cut
/- The contracts of bit, inverse, readField, and of the field's functions of the program. -/
namespace Go.Proofs.YtfbcmckepdjdkaaDoor
open Go.RowKit Go.My Go.Lib
set_option linter.unusedVariables false

theorem lw_eq (n q : Nat) (h : q < 4) : lw n q = n / 2 ^ (64 * q) % 18446744073709551616 := by
  match q with
  | 0 => simp [lw]
  | 1 => rfl
  | 2 => rfl
  | 3 => rfl
theorem bit_nat (n i : Nat) (h : i < 256) : lw n (i / 64) / 2 ^ (i % 64) % 2 = n / 2 ^ i % 2 := by
  rw [lw_eq n (i / 64) (by omega)]
  have hp : (18446744073709551616 : Nat) = 2 ^ (i % 64) * 2 ^ (64 - i % 64) := by rw [← Nat.pow_add, show i % 64 + (64 - i % 64) = 64 by omega]
  rw [hp, Nat.mod_mul_right_div_self, Nat.div_div_eq_div_mul, ← Nat.pow_add, show 64 * (i / 64) + i % 64 = i by omega]
  obtain ⟨m, hm⟩ : ∃ m, 64 - i % 64 = m + 1 := ⟨63 - i % 64, by omega⟩
  rw [hm, Nat.pow_succ, Nat.mul_comm, Nat.mod_mul_right_mod]

theorem bitE (X r : Nat) (h : X < U64) : (bits .and .u64 ((X : Int) / 2 ^ r) 1 == 1) = decide (X / 2 ^ r % 2 = 1) := by
  have e : (X : Int) / 2 ^ r = ((X / 2 ^ r : Nat) : Int) := by rw [Int.natCast_ediv, Int.natCast_pow]; rfl
  have hl : X / 2 ^ r < 18446744073709551616 := Nat.lt_of_le_of_lt (Nat.div_le_self _ _) h
  have h1 := u64_and_nat (X / 2 ^ r) 1 hl (by omega)
  rw [Nat.and_one_is_mod] at h1
  rw [e, show (1 : Int) = ((1 : Nat) : Int) from rfl, h1]
  by_cases c : X / 2 ^ r % 2 = 1
  · rw [c]; rfl
  · rw [decide_eq_false c]; exact beq_eq_false_iff_ne.2 (by omega)

set_option maxHeartbeats 1000000 in
theorem bit_any (n i : Nat) (w : World) (hi : i < 256) :
    Calls Tryd.prog 176 #[.agg (fldA n), .int .i64 i] w fun e w' => e = .returned (.bool (decide (n / 2 ^ i % 2 = 1))) ∧ Below w.heap.size w w' := by
  have HGA : Hid (fldA n = rwA .u64 4 (fun q => (lw n q : Int))) := rfl
  have hc := (cell_of_row (w.alloc (.cells (rwA .u64 4 (fun q => (lw n q : Int))) 97)) w.heap.size (i / 64) _ _ _ (heap_alloc_new w _)).trans (rwA_get .u64 4 _ (i / 64) (by omega))
  have i0 : (0 : Int) ≤ (i : Int) := by omega
  have i1 : (i : Int) < 256 := by omega
  have q0 : (0 : Int) ≤ (i : Int) / 64 := by omega
  have q1 : (i : Int) / 64 < 4 := by omega
  have qt : ((i : Int) / 64).toNat = i / 64 := by omega
  have r0 : (0 : Int) ≤ (i : Int) % 64 := by omega
  have r1 : (i : Int) % 64 < 64 := by omega
  have rt : ((i : Int) % 64).toNat = i % 64 := by omega
  rw [← bit_nat n i hi, HGA.out]
  have HL := Lib.hid (lw_lt n (i / 64))
  generalize lw n (i / 64) = X at *
  go_enter Tryd.func176, Tryd.ntmps176
  go_wp2
  rw [bitE X (i % 64) HL.out]
  go_ret
  exact ⟨rfl, (Below.refl _ _).alloc (Nat.le_refl _) _⟩

def E25 : Nat := P25n - 2
theorem exp_row : #[Value.int .u64 18446744073709551595, Value.int .u64 18446744073709551615, Value.int .u64 18446744073709551615, Value.int .u64 9223372036854775807] = fldA E25 := by kernel_rfl
theorem one_row : #[Value.int .u64 1, Value.int .u64 0, Value.int .u64 0, Value.int .u64 0] = fldA 1 := by kernel_rfl
theorem TabP.lit {w : World} (h : TabP w) : w.cell? ⟨0, 0, none⟩ = some (.int .u64 18446744073709551597) ∧ w.cell? ⟨0, 1, none⟩ = some (.int .u64 18446744073709551615) ∧ w.cell? ⟨0, 2, none⟩ = some (.int .u64 18446744073709551615) ∧ w.cell? ⟨0, 3, none⟩ = some (.int .u64 9223372036854775807) :=
  ⟨(h.2 0 (by omega)).trans (by kernel_rfl), (h.2 1 (by omega)).trans (by kernel_rfl), (h.2 2 (by omega)).trans (by kernel_rfl), (h.2 3 (by omega)).trans (by kernel_rfl)⟩

theorem sq_mod (a e p : Nat) : a ^ e % p * (a ^ e % p) % p = a ^ (2 * e) % p := by rw [← Nat.mul_mod, ← Nat.pow_add, Nat.two_mul]
theorem sm_mod (a e p : Nat) : a ^ e % p * a % p = a ^ (e + 1) % p := by rw [Nat.pow_succ, Nat.mul_mod (a ^ e) a, Nat.mul_mod (a ^ e % p) a, Nat.mod_mod]
theorem half (E m : Nat) : E / 2 ^ m = 2 * (E / 2 ^ (m + 1)) + E / 2 ^ m % 2 := by
  rw [Nat.pow_succ, ← Nat.div_div_eq_div_mul]
  omega
theorem modP_lt (x : Nat) : x % P25n < W256 := Nat.lt_of_lt_of_le (Nat.mod_lt _ (by decide)) (by decide)
theorem fsame (x y : Nat) : (fldA x).size = (fldA y).size := by rw [fldA, fldA, rwA_size, rwA_size]
theorem gr_fld {w w2 : World} {g : Nat} (h : w.grownBy w2 (some g)) (k : Nat) (hk : k < w.heap.size) (hne : k ≠ g) : w2.heap[k]? = w.heap[k]? := h.block k hk (by simpa using hne)

set_option maxHeartbeats 2000000 in
theorem inverse_any (a : Nat) (w : World) (ha : a < W256) (hp : TabP w) :
    Calls Tryd.prog 179 #[.agg (fldA a)] w fun e w' => e = .returned (.agg (fldA (a ^ E25 % P25n))) ∧ Below w.heap.size w w' := by
  have HFN := Lib.hid (fun m => fszN m)
  have hb0 : Below w.heap.size w ((w.alloc (.cells (fldA a) 97)).alloc (.cells Z4 97)) := ((Below.refl _ _).alloc (Nat.le_refl _) _).alloc (by simp) _
  obtain ⟨k0, k1, k2, k3⟩ := (hp.below hb0 hp.1).lit
  clear hb0
  go_enter Tryd.func179, Tryd.ntmps179
  go_wp2
  have H1N := Lib.hid (fun m => oneN m)
  have HZN := Lib.hid (fun m => zszN m)
  have HTM := Lib.hid (fun x y wx hx hy ht => times_any x y wx hx hy ht)
  have HBT := Lib.hid (fun i wx hi => bit_any E25 i wx hi)
  have HA := Lib.hid ha
  clear ha k0 k1 k2 k3
  go_loopw [5] (fun i wr => ∃ k : Nat, k ≤ 255 ∧ i = .int .i64 ((k : Int) - 1) ∧ wr.heap[w.heap.size + 1 + 1 + 1]? = some (.cells (fldA (a ^ (E25 / 2 ^ k) % P25n)) 97 (0, 0)) ∧ wr.heap[w.heap.size + 1 + 1]? = some (.cells (fldA E25) 97 (0, 0)) ∧ wr.heap[w.heap.size]? = some (.cells (fldA a) 97 (0, 0)) ∧ wr.heap[w.heap.size + 1]? = some (.cells Z4 97 (0, 0)) ∧ Below w.heap.size w wr)
    (fun i _ => (intOf i + 1).toNat)
  case atStart =>
    refine ⟨255, by omega, rfl, ?_, ?_, al4_0 w _ _ _ _, al4_1 w _ _ _ _, ((((Below.refl _ _).alloc (Nat.le_refl _) _).alloc (by simp) _).alloc (by simp; omega) _).alloc (by simp; omega) _⟩
    · rw [show E25 / 2 ^ 255 = 0 by decide +kernel, Nat.pow_zero, show 1 % P25n = 1 by decide +kernel, ← one_row]
      exact al4_3 w _ _ _ _
    · rw [← exp_row]
      exact al4_2 w _ _ _ _
  case round =>
    obtain ⟨k, hk, rfl, ho, hex, haa, hz, hb⟩ := hrel
    by_cases hlt : 0 < k
    · obtain ⟨m, rfl⟩ : ∃ m, k = m + 1 := ⟨k - 1, by omega⟩
      have hme : ((m + 1 : Nat) : Int) - 1 = (m : Int) := by omega
      rw [hme]
      have m0 : (0 : Int) ≤ (m : Int) := by omega
      have m1 : (m : Int) ≤ 254 := by omega
      have HK := Lib.hid hk
      have HX2 := Lib.hid (sq_mod a (E25 / 2 ^ (m + 1)) P25n)
      have hgl : w.heap.size + 1 + 1 + 1 < wr.heap.size := (Array.getElem?_eq_some_iff.1 ho).1
      have HGL := Lib.hid hgl
      have HT := Lib.hid (hp.below hb hp.1)
      clear hk hlt hme hgl
      go_wp2_with (first
        | with_reducible refine wpList_load_row (o := ⟨some 21, _, _, _, _, _⟩) rfl 97 _ rfl (w.heap.size + 1 + 1 + 1) rfl 97 (fldA (a ^ (E25 / 2 ^ (m + 1)) % P25n)) (0, 0) (.array 4 95) ho Tryd.underlying97 rfl (HFN.out _) ?_
        | with_reducible refine wpList_load_row (o := ⟨some 22, _, _, _, _, _⟩) rfl 97 _ rfl (w.heap.size + 1 + 1 + 1) rfl 97 (fldA (a ^ (E25 / 2 ^ (m + 1)) % P25n)) (0, 0) (.array 4 95) ho Tryd.underlying97 rfl (HFN.out _) ?_
        | fail)
      refine (HTM.out _ _ _ (modP_lt _) (modP_lt _) HT.out).mono ?_
      rintro e w2 ⟨rfl, hb2⟩
      rw [HX2.out]
      have ho2 : w2.heap[w.heap.size + 1 + 1 + 1]? = some (.cells (fldA (a ^ (E25 / 2 ^ (m + 1)) % P25n)) 97 (0, 0)) := (hb2.block _ HGL.out).trans ho
      have hex2 : w2.heap[w.heap.size + 1 + 1]? = some (.cells (fldA E25) 97 (0, 0)) := (hb2.block _ (by have := HGL.out; omega)).trans hex
      have haa2 : w2.heap[w.heap.size]? = some (.cells (fldA a) 97 (0, 0)) := (hb2.block _ (by have := HGL.out; omega)).trans haa
      have hz2 : w2.heap[w.heap.size + 1]? = some (.cells Z4 97 (0, 0)) := (hb2.block _ (by have := HGL.out; omega)).trans hz
      have hgl2 : w.heap.size + 1 + 1 + 1 < w2.heap.size := Nat.lt_of_lt_of_le HGL.out hb2.size
      have hbw2 := hb.trans (hb2.mono hb.size)
      have HGL2 := Lib.hid hgl2
      clear ho hex haa hz hb hb2 HGL HT hgl2
      go_wp2_with (first
        | ((with_reducible refine wpList_store_row' (o := ⟨none, .store 97 _ _, _, _, _, _⟩) rfl 97 _ _ rfl (w.heap.size + 1 + 1 + 1) (fldA (a ^ (2 * (E25 / 2 ^ (m + 1))) % P25n)) rfl rfl 97 (fldA (a ^ (E25 / 2 ^ (m + 1)) % P25n)) ho2 (HFN.out _) (fsame _ _) (H1N.out _) ?_); intro w3 hw3 hs3 hg3; have hex3 : w3.heap[w.heap.size + 1 + 1]? = some (.cells (fldA E25) 97 (0, 0)) := (gr_fld hg3 _ (by have := HGL2.out; omega) (by omega)).trans hex2)
        | with_reducible refine wpList_load_row (o := ⟨some 24, _, _, _, _, _⟩) rfl 97 _ rfl (w.heap.size + 1 + 1) rfl 97 (fldA E25) (0, 0) (.array 4 95) hex3 Tryd.underlying97 rfl (HFN.out _) ?_
        | fail)
      have haa3 : w3.heap[w.heap.size]? = some (.cells (fldA a) 97 (0, 0)) := (gr_fld hg3 _ (by have := HGL2.out; omega) (by omega)).trans haa2
      have hz3 : w3.heap[w.heap.size + 1]? = some (.cells Z4 97 (0, 0)) := (gr_fld hg3 _ (by have := HGL2.out; omega) (by omega)).trans hz2
      have hbw3 : Below w.heap.size w w3 := hbw2.grown hg3 hbw2.size (by intro k hk; have := Option.some.inj hk; omega)
      have hgl3 : w.heap.size + 1 + 1 + 1 < w3.heap.size := (Array.getElem?_eq_some_iff.1 hw3).1
      have HGL3 := Lib.hid hgl3
      clear ho2 hex2 haa2 hz2 hbw2 HGL2 hgl3 hs3 hg3
      refine (HBT.out m _ (by omega)).mono ?_
      rintro e w4 ⟨rfl, hb4⟩
      have hw4 : w4.heap[w.heap.size + 1 + 1 + 1]? = some (.cells (fldA (a ^ (2 * (E25 / 2 ^ (m + 1))) % P25n)) 97 (0, 0)) := (hb4.block _ HGL3.out).trans hw3
      have hex4 : w4.heap[w.heap.size + 1 + 1]? = some (.cells (fldA E25) 97 (0, 0)) := (hb4.block _ (by have := HGL3.out; omega)).trans hex3
      have haa4 : w4.heap[w.heap.size]? = some (.cells (fldA a) 97 (0, 0)) := (hb4.block _ (by have := HGL3.out; omega)).trans haa3
      have hz4 : w4.heap[w.heap.size + 1]? = some (.cells Z4 97 (0, 0)) := (hb4.block _ (by have := HGL3.out; omega)).trans hz3
      have hbw4 := hbw3.trans (hb4.mono hbw3.size)
      have hgl4 : w.heap.size + 1 + 1 + 1 < w4.heap.size := Nat.lt_of_lt_of_le HGL3.out hb4.size
      have HGL4 := Lib.hid hgl4
      clear hw3 hex3 haa3 hz3 hbw3 hb4 HGL3 hgl4
      have hhalf := half E25 m
      by_cases hbit : E25 / 2 ^ m % 2 = 1
      · have HE : Hid (a ^ (2 * (E25 / 2 ^ (m + 1))) % P25n * a % P25n = a ^ (E25 / 2 ^ m) % P25n) := by show _ = _; rw [sm_mod, hhalf, hbit]
        rw [decide_eq_true hbit]
        have HT4 := Lib.hid (hp.below hbw4 hp.1)
        clear hbit hhalf
        go_wp2_with (first
          | with_reducible refine wpList_load_row (o := ⟨some 27, _, _, _, _, _⟩) rfl 97 _ rfl (w.heap.size + 1 + 1 + 1) rfl 97 (fldA (a ^ (2 * (E25 / 2 ^ (m + 1))) % P25n)) (0, 0) (.array 4 95) hw4 Tryd.underlying97 rfl (HFN.out _) ?_
          | with_reducible refine wpList_load_row (o := ⟨some 28, _, _, _, _, _⟩) rfl 97 _ rfl w.heap.size rfl 97 (fldA a) (0, 0) (.array 4 95) haa4 Tryd.underlying97 rfl (HFN.out _) ?_
          | fail)
        refine (HTM.out _ _ _ (modP_lt _) HA.out HT4.out).mono ?_
        rintro e w5 ⟨rfl, hb5⟩
        rw [HE.out]
        have hw5 : w5.heap[w.heap.size + 1 + 1 + 1]? = some (.cells (fldA (a ^ (2 * (E25 / 2 ^ (m + 1))) % P25n)) 97 (0, 0)) := (hb5.block _ HGL4.out).trans hw4
        have hex5 : w5.heap[w.heap.size + 1 + 1]? = some (.cells (fldA E25) 97 (0, 0)) := (hb5.block _ (by have := HGL4.out; omega)).trans hex4
        have haa5 : w5.heap[w.heap.size]? = some (.cells (fldA a) 97 (0, 0)) := (hb5.block _ (by have := HGL4.out; omega)).trans haa4
        have hz5 : w5.heap[w.heap.size + 1]? = some (.cells Z4 97 (0, 0)) := (hb5.block _ (by have := HGL4.out; omega)).trans hz4
        have hbw5 := hbw4.trans (hb5.mono hbw4.size)
        have HGL5 := Lib.hid (Nat.lt_of_lt_of_le HGL4.out hb5.size)
        clear hw4 hex4 haa4 hz4 hbw4 hb5 HGL4 HT4
        go_wp2_with (first
          | ((with_reducible refine wpList_store_row' (o := ⟨none, .store 97 _ _, _, _, _, _⟩) rfl 97 _ _ rfl (w.heap.size + 1 + 1 + 1) (fldA (a ^ (E25 / 2 ^ m) % P25n)) rfl rfl 97 (fldA (a ^ (2 * (E25 / 2 ^ (m + 1))) % P25n)) hw5 (HFN.out _) (fsame _ _) (H1N.out _) ?_); intro w6 hw6 hs6 hg6)
          | fail)
        have hex6 : w6.heap[w.heap.size + 1 + 1]? = some (.cells (fldA E25) 97 (0, 0)) := (gr_fld hg6 _ (by have := HGL5.out; omega) (by omega)).trans hex5
        have haa6 : w6.heap[w.heap.size]? = some (.cells (fldA a) 97 (0, 0)) := (gr_fld hg6 _ (by have := HGL5.out; omega) (by omega)).trans haa5
        have hz6 : w6.heap[w.heap.size + 1]? = some (.cells Z4 97 (0, 0)) := (gr_fld hg6 _ (by have := HGL5.out; omega) (by omega)).trans hz5
        have hbw6 : Below w.heap.size w w6 := hbw5.grown hg6 hbw5.size (by intro k hk; have := Option.some.inj hk; omega)
        clear hw5 hex5 haa5 hz5 hbw5 HGL5 hs6 hg6
        go_roundw
        case rel => exact ⟨m, by have := HK.out; omega, by go_num, hw6, hex6, haa6, hz6, hbw6⟩
        case measure => first | (simp [intOf]; omega) | simp [intOf]
      · have HE : Hid (a ^ (2 * (E25 / 2 ^ (m + 1))) % P25n = a ^ (E25 / 2 ^ m) % P25n) := by show _ = _; rw [show E25 / 2 ^ m % 2 = 0 by omega, Nat.add_zero] at hhalf; rw [← hhalf]
        rw [decide_eq_false hbit]
        clear hbit hhalf
        rw [HE.out] at hw4
        go_wp2
        go_roundw
        case rel => exact ⟨m, by have := HK.out; omega, by go_num, hw4, hex4, haa4, hz4, hbw4⟩
        case measure => first | (simp [intOf]; omega) | simp [intOf]
    · have hke : k = 0 := by omega
      subst hke
      rw [Nat.pow_zero, Nat.div_one] at ho
      clear hlt hk
      generalize hR : a ^ E25 % P25n = R at *
      have HR := Lib.hid hR
      clear hR
      go_wp2_with (first
        | with_reducible refine wpList_load_row (o := ⟨some 30, _, _, _, _, _⟩) rfl 97 _ rfl (w.heap.size + 1 + 1 + 1) rfl 97 (fldA R) (0, 0) (.array 4 95) ho Tryd.underlying97 rfl (HFN.out _) ?_
        | with_reducible (refine wpList_store_row (o := ⟨none, .store 97 _ _, _, _, _, _⟩) rfl 97 _ _ rfl (w.heap.size + 1) (fldA R) rfl rfl 97 Z4 hz (HFN.out _) (HZN.out _) (H1N.out _) ?_))
      have hrow := setRow_heap wr (w.heap.size + 1) Z4 (fldA R) 97 (0, 0) hz
      refine bodyPost_ret (v := .agg (fldA R)) ?_ rfl ⟨by rw [HR.out], ?_⟩
      · exact results_cell_row Tryd.results179 _ _ (w.heap.size + 1) 97 _ (0, 0) _ rfl hrow Tryd.underlying97 rfl (HFN.out _)
      · exact hb.trans ⟨rfl, rfl, rfl, by simp, fun k hk => setRow_other wr (w.heap.size + 1) k _ (by omega)⟩

end Go.Proofs.YtfbcmckepdjdkaaDoor

/- The contracts of readField, and of the field's functions of the program. -/
namespace Go.Proofs.YtfbcmckepdjdkaaDoor
open Go.RowKit Go.My Go.Lib
set_option linter.unusedVariables false

theorem redF_same (n : Nat) : (redF n = n) ↔ n < P25n := by
  unfold redF P25n
  split <;> omega

theorem sizeOf_u64 (w : World) : (sizeOf 95).run Tryd.prog w = .ok 1 w := by kernel_rfl
theorem run_eq4 (d : Nat) (f g : Nat → Int) (w : World) : (Op.equalIn (d + 2) 97 (.agg (rwA .u64 4 f)) (.agg (rwA .u64 4 g))).run Tryd.prog w = .ok ((List.range 4).all fun i => f i == g i) w := by
  rw [List.range_eq_range', Op.equalIn]
  simp only [Sem.run_bind, run_underlying Tryd.underlying97, Result.andThen_ok, sizeOf_u64, Std.Legacy.Range.forIn_eq_forIn_range', Std.Legacy.Range.size, Nat.sub_zero, Nat.add_sub_cancel, Nat.div_one]
  have hl : ∀ i ∈ List.range' 0 4 1, i < 4 := fun i hi => by simpa using (List.mem_range'_1.1 hi).2
  generalize List.range' 0 4 1 = l at hl ⊢
  induction l with
  | nil => simp
  | cons i l ih =>
    have hi : i < 4 := hl i (by simp)
    have px : ∀ f : Nat → Int, (part 95 (rwA .u64 4 f) (i * 1)).run Tryd.prog w = .ok (.int .u64 (f i)) w := fun f => by
      simp [part, isAgg, run_underlying Tryd.underlying95, rwA_get .u64 4 f i hi]
    have pe : (Op.equalIn (d + 1) 95 (.int .u64 (f i)) (.int .u64 (g i))).run Tryd.prog w = .ok (f i == g i) w := run_equalIn_int w d 95 .u64 .u64 _ _ Tryd.underlying95
    simp only [List.forIn_cons, Sem.run_bind, px, pe, Result.andThen_ok, List.all_cons]
    cases hb : (f i == g i)
    · simp
    · simp only [Bool.not_true, Bool.false_eq_true, if_false, Sem.run_pure, Result.andThen_ok, Bool.true_and]
      exact ih fun j hj => hl j (by simp [hj])
theorem all4 (n m : Nat) (hn : n < W256) (hm : m < W256) : ((List.range 4).all fun i => (lw n i : Int) == (lw m i : Int)) = decide (n = m) := by
  by_cases h : n = m
  · subst h
    rw [decide_eq_true rfl]
    simp
  · rw [decide_eq_false h]
    refine Bool.eq_false_iff.2 fun c => h ?_
    rw [List.all_eq_true] at c
    have e : ∀ i, i < 4 → lw n i = lw m i := fun i hi => by
      have := c i (List.mem_range.2 hi)
      rw [beq_iff_eq] at this
      omega
    rw [← V4_lw n hn, ← V4_lw m hm]
    unfold V4
    rw [e 0 (by omega), e 1 (by omega), e 2 (by omega), e 3 (by omega)]
theorem redF_lt (n : Nat) (h : n < W256) : redF n < W256 := by
  unfold redF P25n
  unfold W256 at *
  split <;> omega
theorem run_same (n : Nat) (h : n < W256) (w : World) : (Op.equalIn 10000 97 (.agg #[Value.int .u64 (lw n 0 : Int), Value.int .u64 (lw n 1 : Int), Value.int .u64 (lw n 2 : Int), Value.int .u64 (lw n 3 : Int)]) (.agg (fldA (redF n)))).run Tryd.prog w = .ok (decide (n < P25n)) w := by
  have := run_eq4 9998 (fun q => (lw n q : Int)) (fun q => (lw (redF n) q : Int)) w
  rw [all4 n (redF n) h (redF_lt n h)] at this
  rw [show decide (n < P25n) = decide (n = redF n) from decide_eq_decide.2 ⟨fun h => ((redF_same n).2 h).symm, fun h => (redF_same n).1 h.symm⟩]
  exact this
theorem fld_lit (n : Nat) : fldA n = #[Value.int .u64 (lw n 0 : Int), Value.int .u64 (lw n 1 : Int), Value.int .u64 (lw n 2 : Int), Value.int .u64 (lw n 3 : Int)] := rfl
theorem set4 {w : World} {g t : Nat} {A : Array Value} (h : w.heap[g]? = some (.cells A t (0, 0))) (hs : A.size = 4) (x0 x1 x2 x3 : Value) :
    ((((w.setCell ⟨g, 0, none⟩ x0).setCell ⟨g, 1, none⟩ x1).setCell ⟨g, 2, none⟩ x2).setCell ⟨g, 3, none⟩ x3).heap[g]? = some (.cells #[x0, x1, x2, x3] t (0, 0)) := by
  have h0 := heap_setCell_same w g 0 A t x0 h
  have h1 := heap_setCell_same _ g 1 _ t x1 h0
  have h2 := heap_setCell_same _ g 2 _ t x2 h1
  have h3 := heap_setCell_same _ g 3 _ t x3 h2
  rw [h3]
  rcases A with ⟨l⟩
  simp only [List.setIfInBounds_toArray]
  match l, hs with
  | [_, _, _, _], _ => simp only [List.set]
theorem row_cells {w : World} {g n : Nat} (h : w.heap[g]? = some (.cells (fldA n) 97 (0, 0))) : w.cell? ⟨g, 0, none⟩ = some (.int .u64 (lw n 0 : Int)) ∧ w.cell? ⟨g, 1, none⟩ = some (.int .u64 (lw n 1 : Int)) ∧ w.cell? ⟨g, 2, none⟩ = some (.int .u64 (lw n 2 : Int)) ∧ w.cell? ⟨g, 3, none⟩ = some (.int .u64 (lw n 3 : Int)) :=
  ⟨(cell_of_row w g 0 _ _ _ h).trans rfl, (cell_of_row w g 1 _ _ _ h).trans rfl, (cell_of_row w g 2 _ _ _ h).trans rfl, (cell_of_row w g 3 _ _ _ h).trans rfl⟩
theorem z_cells {w : World} {g : Nat} (h : w.heap[g]? = some (.cells Z4 97 (0, 0))) : w.cell? ⟨g, 0, none⟩ = some (.int .u64 0) ∧ w.cell? ⟨g, 1, none⟩ = some (.int .u64 0) ∧ w.cell? ⟨g, 2, none⟩ = some (.int .u64 0) ∧ w.cell? ⟨g, 3, none⟩ = some (.int .u64 0) :=
  ⟨(cell_of_row w g 0 _ _ _ h).trans rfl, (cell_of_row w g 1 _ _ _ h).trans rfl, (cell_of_row w g 2 _ _ _ h).trans rfl, (cell_of_row w g 3 _ _ _ h).trans rfl⟩

theorem results_row_tmp {P : Program} {fn : Func} {p u : Tmp} {ty : TypeId} (h : fn.results = #[.cell p ty, .tmp u]) (tmps : Array Value) (w : World) (g : Nat) (t : TypeId) (cs : Array Value) (fr : Nat × Nat) (d : TypeDesc)
    (hp : tmps.getD p undef = .pointer (some ⟨g, 0, none⟩)) (hg : w.heap[g]? = some (.cells cs t fr))
    (hu : P.underlying ty = some d) (hd : (match d with | .struct _ | .array _ _ => true | _ => false) = true) (hi : (P.info? ty).map (·.size) = some cs.size) :
    (results fn tmps).run P w = .ok (.tuple #[.agg cs, tmps.getD u undef]) w := by
  rw [results_cell_tmp h, hp]
  simp [asAddr, run_loadVar_row w g t ty cs fr d hg hu hd hi]
theorem keep4 {w : World} {g h i : Nat} {x0 x1 x2 x3 v : Value} (hne : h ≠ g) (hc : w.cell? ⟨h, i, none⟩ = some v) :
    ((((w.setCell ⟨g, 0, none⟩ x0).setCell ⟨g, 1, none⟩ x1).setCell ⟨g, 2, none⟩ x2).setCell ⟨g, 3, none⟩ x3).cell? ⟨h, i, none⟩ = some v :=
  cell_set_blk _ hne (cell_set_blk _ hne (cell_set_blk _ hne (cell_set_blk _ hne hc)))

end Go.Proofs.YtfbcmckepdjdkaaDoor

/- The contracts of the field's functions of the program. -/
namespace Go.Proofs.YtfbcmckepdjdkaaDoor
open Go.RowKit Go.My Go.Lib
set_option linter.unusedVariables false

def fldOk (l : List UInt8) : Prop := l.length = 32 ∧ leN l < P25n
instance (l : List UInt8) : Decidable (fldOk l) := inferInstanceAs (Decidable (_ ∧ _))
def rdA (s : ByteArray) : Array Value := if s.size = 32 then fldA (leN s.data.toList) else Z4
theorem rdA_size (s : ByteArray) : (rdA s).size = 4 := by
  unfold rdA
  split
  · exact rwA_size _ _ _
  · rfl
theorem rdA_sz (s : ByteArray) : (Tryd.prog.info? 97).map (·.size) = some (rdA s).size := by rw [rdA_size]; exact size_f4
theorem rdA_z (s : ByteArray) : Z4.size = (rdA s).size := by rw [rdA_size]; rfl
theorem rdA_one (s : ByteArray) : (rdA s).all (·.oneCell') = true := by
  unfold rdA
  split
  · exact oneN _
  · rw [Z4_eq]; exact rwA_one _ _ _
theorem rdA_ok (s : ByteArray) (h : fldOk s.data.toList) : rdA s = fldA (leN s.data.toList) := if_pos (by rw [← len_data]; exact h.1)
def opV (f : Nat → Nat → Nat) (a b : List UInt8) : List UInt8 := if fldOk a ∧ fldOk b then leB (f (leN a) (leN b)) 32 else []

def invV (a : List UInt8) : List UInt8 := if fldOk a then leB (leN a ^ E25 % P25n) 32 else []
end Go.Proofs.YtfbcmckepdjdkaaDoor

/- A field number among the cells of a block: what a load of it yields, and that it stays. -/
namespace Go.Proofs.YtfbcmckepdjdkaaDoor
open Go.RowKit Go.My Go.Lib
set_option linter.unusedVariables false

/-- The words of n lie in block g from offset o on. -/
def FldAt (g o n : Nat) (w : World) : Prop := g < w.heap.size ∧ w.rangeAt g o (fldA n).toList
theorem FldAt.lt {g o n : Nat} {w : World} (h : FldAt g o n w) : g < w.heap.size := h.1
theorem FldAt.below {g o n : Nat} {V W : World} (hb : Below V.heap.size V W) (h : FldAt g o n V) : FldAt g o n W :=
  ⟨Nat.lt_of_lt_of_le h.1 hb.size, fun j v hv => (hb.cell (p := ⟨g, o + j, none⟩) h.1).trans (h.2 j v hv)⟩
theorem FldAt.drew {g o n : Nat} {V : World} (h : FldAt g o n V) : FldAt g o n V.drew := h.below (Below.refl _ _).drew
theorem FldAt.past {g o n : Nat} {V : World} (h : FldAt g o n V) (ob : Obj) : FldAt g o n (V.alloc ob) := h.below ((Below.refl _ _).alloc (Nat.le_refl _) _)
theorem FldAt.ld {g o n : Nat} {w : World} (h : FldAt g o n w) : (Instr.loadAt 97 (.pointer (some ⟨g, o, none⟩))).run Tryd.prog w = .ok (.agg (fldA n)) w := by
  have := run_loadAt_mid (P := Tryd.prog) w g o 97 (fldA n).toList (.array 4 95) h.2 Tryd.underlying97 rfl (by rw [Array.length_toList]; exact fszN n)
  rw [Array.toArray_toList] at this
  exact this
def ptA (x z : Nat) : Array Value := fldA x ++ fldA z
theorem ptA_size (x z : Nat) : (ptA x z).size = 8 := by rw [ptA, Array.size_append, fldA, fldA, rwA_size, rwA_size]
theorem FldAt.box_x (w : World) (x z T : Nat) : FldAt w.heap.size 0 x (w.alloc (.cells (ptA x z) T)) :=
  ⟨by simp, fun j v hv => by
    rw [Nat.zero_add, cell_of_row _ _ _ _ _ _ (heap_alloc_new w _)]
    rw [ptA, Array.getElem?_append_left (by have := (List.getElem?_eq_some_iff.1 hv).1; simpa using this)]
    simpa using hv⟩
theorem FldAt.box_z (w : World) (x z T : Nat) : FldAt w.heap.size 4 z (w.alloc (.cells (ptA x z) T)) :=
  ⟨by simp, fun j v hv => by
    rw [cell_of_row _ _ _ _ _ _ (heap_alloc_new w _)]
    rw [ptA, Array.getElem?_append_right (by rw [fldA, rwA_size]; omega)]
    rw [show 4 + j - (fldA x).size = j by rw [fldA, rwA_size]; omega]
    simpa using hv⟩
theorem FldAt.box (w : World) (x T : Nat) : FldAt w.heap.size 0 x (w.alloc (.cells (fldA x) T)) :=
  ⟨by simp, fun j v hv => by
    rw [Nat.zero_add, cell_of_row _ _ _ _ _ _ (heap_alloc_new w _)]
    simpa using hv⟩

end Go.Proofs.YtfbcmckepdjdkaaDoor

/- The small pieces that a step of the program's ladder is made of; the ladder on numbers. -/
namespace Go.Proofs.YtfbcmckepdjdkaaDoor
open Go.RowKit Go.My Go.Lib
set_option linter.unusedVariables false

def fAd (a b : Nat) : Nat := (a + b) % P25n
def fSb (a b : Nat) : Nat := (a + (P25n - b)) % P25n
def fMu (a b : Nat) : Nat := a * b % P25n
theorem fAd_lt (a b : Nat) : fAd a b < P25n := Nat.mod_lt _ (by decide)
theorem fSb_lt (a b : Nat) : fSb a b < P25n := Nat.mod_lt _ (by decide)
theorem fMu_lt (a b : Nat) : fMu a b < P25n := Nat.mod_lt _ (by decide)
theorem ltW {a : Nat} (h : a < P25n) : a < W256 := Nat.lt_trans h (by decide)

theorem fAdd_any (a b c : Nat) (w : World) (hc : c = fAd a b) (ha : a < P25n) (hb : b < P25n) (hp : TabP w) :
    Calls Tryd.prog 192 [Value.agg (fldA a), Value.agg (fldA b)].toArray w fun e w' => e = .returned (.agg (fldA c)) ∧ Below w.heap.size w w' := by
  have := plus_any a b w (by unfold W256; unfold P25n at *; omega) hp
  rw [red_mod (a + b) (by omega)] at this
  rw [hc]
  exact this
theorem fSub_any (a b c : Nat) (w : World) (hc : c = fSb a b) (ha : a < P25n) (hb : b < P25n) (hp : TabP w) :
    Calls Tryd.prog 193 [Value.agg (fldA a), Value.agg (fldA b)].toArray w fun e w' => e = .returned (.agg (fldA c)) ∧ Below w.heap.size w w' := by
  have := minus_any a b w ha (by omega) hp
  rw [red_mod (a + (P25n - b)) (by omega)] at this
  rw [hc]
  exact this
theorem fMul_any (a b c : Nat) (w : World) (hc : c = fMu a b) (ha : a < P25n) (hb : b < P25n) (hp : TabP w) :
    Calls Tryd.prog 178 [Value.agg (fldA a), Value.agg (fldA b)].toArray w fun e w' => e = .returned (.agg (fldA c)) ∧ Below w.heap.size w w' := by
  rw [hc]
  exact times_any a b w (ltW ha) (ltW hb) hp

theorem cfPlus (args : Array Value) (w : World) : (callFunc 192 args).run Tryd.prog w = .ok (.enter 192 args) w := cf_of Tryd.func192 (by kernel_rfl) (by kernel_rfl) args w
theorem cfMinus (args : Array Value) (w : World) : (callFunc 193 args).run Tryd.prog w = .ok (.enter 193 args) w := cf_of Tryd.func193 (by kernel_rfl) (by kernel_rfl) args w
theorem cfTimes (args : Array Value) (w : World) : (callFunc 178 args).run Tryd.prog w = .ok (.enter 178 args) w := cf_of Tryd.func178 (by kernel_rfl) (by kernel_rfl) args w

abbrev Z8 : Array Value := #[Value.int .u64 0, Value.int .u64 0, Value.int .u64 0, Value.int .u64 0, Value.int .u64 0, Value.int .u64 0, Value.int .u64 0, Value.int .u64 0]
theorem alF (w : World) : (Instr.alloc 97 true (.tuple #[])).run Tryd.prog w = .ok (.pointer (some ⟨w.heap.size, 0, none⟩)) (w.alloc (.cells Z4 97)) := by kernel_rfl
theorem alP (w : World) : (Instr.alloc 184 true (.tuple #[])).run Tryd.prog w = .ok (.pointer (some ⟨w.heap.size, 0, none⟩)) (w.alloc (.cells Z8 184)) := by kernel_rfl
theorem fx (g : Nat) (w : World) : (Instr.fieldAt 184 (.pointer (some ⟨g, 0, none⟩)) 0).run Tryd.prog w = .ok (.pointer (some ⟨g, 0, none⟩)) w := by kernel_rfl
theorem fz (g : Nat) (w : World) : (Instr.fieldAt 184 (.pointer (some ⟨g, 0, none⟩)) 1).run Tryd.prog w = .ok (.pointer (some ⟨g, 4, none⟩)) w := by kernel_rfl
theorem bF (n : Nat) (hn : n < 18446744073709551616) (w : World) : (Instr.build 97 #[(0, .int .u64 n)]).run Tryd.prog w = .ok (.agg (fldA n)) w := by
  rw [← fld_small n hn]
  kernel_rfl
theorem bP (x z : Nat) (w : World) : (Instr.build 184 #[(0, .agg (fldA x)), (1, .agg (fldA z))]).run Tryd.prog w = .ok (.agg (ptA x z)) w := by kernel_rfl
theorem szP : (Tryd.prog.info? 184).map (·.size) = some 8 := by kernel_rfl
theorem ptSz (x z : Nat) : (Tryd.prog.info? 184).map (·.size) = some (ptA x z).size := by rw [ptA_size]; exact szP
theorem ptOne (x z : Nat) : (ptA x z).all (·.oneCell') = true := by rw [ptA, Array.all_append, oneN, oneN]; rfl
theorem z8p (x z : Nat) : Z8.size = (ptA x z).size := by rw [ptA_size]; rfl
theorem ptld {g x z : Nat} {w : World} (h : w.heap[g]? = some (.cells (ptA x z) 184 (0, 0))) : (Instr.loadAt 184 (.pointer (some ⟨g, 0, none⟩))).run Tryd.prog w = .ok (.agg (ptA x z)) w := by
  have hr : w.rangeAt g 0 (ptA x z).toList := fun j v hv => by
    rw [Nat.zero_add, cell_of_row _ _ _ _ _ _ h]
    simpa using hv
  obtain ⟨d, hd, hrow⟩ : ∃ d, Tryd.prog.underlying 184 = some d ∧ d.isRow = true := ⟨_, Tryd.underlying184, rfl⟩
  have := run_loadAt_mid (P := Tryd.prog) w g 0 184 (ptA x z).toList d hr hd hrow (by rw [Array.length_toList]; exact ptSz x z)
  rw [Array.toArray_toList] at this
  exact this
theorem FldAt.kept {g o n : Nat} {G : Nat → Prop} {V W : World} (hb : Kept G V W) (hn : ¬ G g) (h : FldAt g o n V) : FldAt g o n W :=
  ⟨Nat.lt_of_lt_of_le h.1 hb.size, fun j v hv => (World.cell?_of_block (w := V) (hb.block g h.1 hn)).trans (h.2 j v hv)⟩
theorem TabP.kept {G : Nat → Prop} {V W : World} (hb : Kept G V W) (hn : ¬ G 0) (h : TabP V) : TabP W :=
  ⟨Nat.lt_of_lt_of_le h.1 hb.size, fun i hi => (World.cell?_of_block (w := V) (hb.block _ h.1 hn)).trans (h.2 i hi)⟩
theorem FldAt.blk {g n T : Nat} {w : World} (h : w.heap[g]? = some (.cells (fldA n) T (0, 0))) : FldAt g 0 n w :=
  ⟨(Array.getElem?_eq_some_iff.1 h).1, fun j v hv => by
    rw [Nat.zero_add, cell_of_row _ _ _ _ _ _ h]
    simpa using hv⟩
theorem FldAt.px {g x z T : Nat} {w : World} (h : w.heap[g]? = some (.cells (ptA x z) T (0, 0))) : FldAt g 0 x w :=
  ⟨(Array.getElem?_eq_some_iff.1 h).1, fun j v hv => by
    rw [Nat.zero_add, cell_of_row _ _ _ _ _ _ h, ptA, Array.getElem?_append_left (by have := (List.getElem?_eq_some_iff.1 hv).1; simpa using this)]
    simpa using hv⟩
theorem FldAt.pz {g x z T : Nat} {w : World} (h : w.heap[g]? = some (.cells (ptA x z) T (0, 0))) : FldAt g 4 z w :=
  ⟨(Array.getElem?_eq_some_iff.1 h).1, fun j v hv => by
    rw [cell_of_row _ _ _ _ _ _ h, ptA, Array.getElem?_append_right (by rw [fldA, rwA_size]; omega), show 4 + j - (fldA x).size = j by rw [fldA, rwA_size]; omega]
    simpa using hv⟩
def stepN (a b : Nat × Nat) (u : Nat) : (Nat × Nat) × (Nat × Nat) :=
  let s := fAd a.1 a.2
  let d := fSb a.1 a.2
  let ss := fMu s s
  let dd := fMu d d
  let g := fSb ss dd
  let l := fMu (fSb b.1 b.2) s
  let r := fMu (fAd b.1 b.2) d
  let p := fAd l r
  let q := fSb l r
  ((fMu ss dd, fMu g (fAd ss (fMu g 121665))), (fMu p p, fMu u (fMu q q)))
theorem results_row2 {P : Program} {fn : Func} {p q : Tmp} {ty : TypeId} (h : fn.results = #[.cell p ty, .cell q ty]) (tmps : Array Value) (w : World) (g k : Nat) (t : TypeId) (cs ds : Array Value) (fr : Nat × Nat) (d : TypeDesc)
    (hp : tmps.getD p undef = .pointer (some ⟨g, 0, none⟩)) (hq : tmps.getD q undef = .pointer (some ⟨k, 0, none⟩)) (hg : w.heap[g]? = some (.cells cs t fr)) (hk : w.heap[k]? = some (.cells ds t fr))
    (hu : P.underlying ty = some d) (hd : d.isRow = true) (hi : (P.info? ty).map (·.size) = some cs.size) (hi2 : (P.info? ty).map (·.size) = some ds.size) : (results fn tmps).run P w = .ok (.tuple #[.agg cs, .agg ds]) w := by
  have h1 := run_loadVar_row (P := P) w g t ty cs fr d hg hu (by cases d <;> first | rfl | exact hd) hi
  have h2 := run_loadVar_row (P := P) w k t ty ds fr d hk hu (by cases d <;> first | rfl | exact hd) hi2
  unfold results
  rw [h]
  have hp' : tmps[p]?.getD undef = .pointer (some ⟨g, 0, none⟩) := by simpa using hp
  have hq' : tmps[q]?.getD undef = .pointer (some ⟨k, 0, none⟩) := by simpa using hq
  simp [hp', hq', asAddr, h1, h2]

end Go.Proofs.YtfbcmckepdjdkaaDoor

/- A step of the program's ladder. -/
namespace Go.Proofs.YtfbcmckepdjdkaaDoor
open Go.RowKit Go.My Go.Lib
set_option linter.unusedVariables false

set_option maxRecDepth 100000 in
set_option maxHeartbeats 8000000 in
theorem stepped_let (ax az bx bz u s d ss dd g X gc gs Z bm l bp r p q XX qq ZZ : Nat) (w : World) (h1 : ax < P25n) (h2 : az < P25n) (h3 : bx < P25n) (h4 : bz < P25n) (h5 : u < P25n) (hp : TabP w)
    (es : s = fAd ax az) (ed : d = fSb ax az) (ess : ss = fMu s s) (edd : dd = fMu d d) (eg : g = fSb ss dd) (eX : X = fMu ss dd) (egc : gc = fMu g 121665) (egs : gs = fAd ss gc) (eZ : Z = fMu g gs) (ebm : bm = fSb bx bz) (el : l = fMu bm s) (ebp : bp = fAd bx bz) (er : r = fMu bp d) (ep : p = fAd l r) (eq : q = fSb l r) (eXX : XX = fMu p p) (eqq : qq = fMu q q) (eZZ : ZZ = fMu u qq) :
    Calls Tryd.prog 177 #[.agg (ptA ax az), .agg (ptA bx bz), .agg (fldA u)] w fun e w' => e = .returned (.tuple #[.agg (ptA X Z), .agg (ptA XX ZZ)]) ∧ Below w.heap.size w w' := by
  have Bax := Lib.hid h1
  have Baz := Lib.hid h2
  have Bbx := Lib.hid h3
  have Bbz := Lib.hid h4
  have Bu := Lib.hid h5
  have Es := Lib.hid es
  have Bs : Hid (s < P25n) := by show _ < _; rw [es]; exact fAd_lt _ _
  have Ed := Lib.hid ed
  have Bd : Hid (d < P25n) := by show _ < _; rw [ed]; exact fSb_lt _ _
  have Ess := Lib.hid ess
  have Bss : Hid (ss < P25n) := by show _ < _; rw [ess]; exact fMu_lt _ _
  have Edd := Lib.hid edd
  have Bdd : Hid (dd < P25n) := by show _ < _; rw [edd]; exact fMu_lt _ _
  have Eg := Lib.hid eg
  have Bg : Hid (g < P25n) := by show _ < _; rw [eg]; exact fSb_lt _ _
  have EX := Lib.hid eX
  have BX : Hid (X < P25n) := by show _ < _; rw [eX]; exact fMu_lt _ _
  have Egc := Lib.hid egc
  have Bgc : Hid (gc < P25n) := by show _ < _; rw [egc]; exact fMu_lt _ _
  have Egs := Lib.hid egs
  have Bgs : Hid (gs < P25n) := by show _ < _; rw [egs]; exact fAd_lt _ _
  have EZ := Lib.hid eZ
  have BZ : Hid (Z < P25n) := by show _ < _; rw [eZ]; exact fMu_lt _ _
  have Ebm := Lib.hid ebm
  have Bbm : Hid (bm < P25n) := by show _ < _; rw [ebm]; exact fSb_lt _ _
  have El := Lib.hid el
  have Bl : Hid (l < P25n) := by show _ < _; rw [el]; exact fMu_lt _ _
  have Ebp := Lib.hid ebp
  have Bbp : Hid (bp < P25n) := by show _ < _; rw [ebp]; exact fAd_lt _ _
  have Er := Lib.hid er
  have Br : Hid (r < P25n) := by show _ < _; rw [er]; exact fMu_lt _ _
  have Ep := Lib.hid ep
  have Bp : Hid (p < P25n) := by show _ < _; rw [ep]; exact fAd_lt _ _
  have Eq := Lib.hid eq
  have Bq : Hid (q < P25n) := by show _ < _; rw [eq]; exact fSb_lt _ _
  have EXX := Lib.hid eXX
  have BXX : Hid (XX < P25n) := by show _ < _; rw [eXX]; exact fMu_lt _ _
  have Eqq := Lib.hid eqq
  have Bqq : Hid (qq < P25n) := by show _ < _; rw [eqq]; exact fMu_lt _ _
  have EZZ := Lib.hid eZZ
  have BZZ : Hid (ZZ < P25n) := by show _ < _; rw [eZZ]; exact fMu_lt _ _
  have B121665 : Hid (121665 < P25n) := by show _ < _; decide
  clear h1 h2 h3 h4 h5 es ed ess edd eg eX egc egs eZ ebm el ebp er ep eq eXX eqq eZZ
  go_enter Tryd.func177, Tryd.ntmps177
  go_upto_region 1 with (fail)
  have hB : Below w.heap.size w (((((w.alloc (.cells (ptA ax az) 184)).alloc (.cells (ptA bx bz) 184)).alloc (.cells (fldA u) 97)).alloc (.cells Z8 184)).alloc (.cells Z8 184)) := ((((((Below.refl _ _).alloc (Nat.le_refl _) _)).alloc (by simp) _).alloc (by simp; omega) _).alloc (by simp; omega) _).alloc (by simp; omega) _
  have fax := ((((FldAt.box_x w ax az 184).past (.cells (ptA bx bz) 184)).past (.cells (fldA u) 97)).past (.cells Z8 184)).past (.cells Z8 184)
  have faz := ((((FldAt.box_z w ax az 184).past (.cells (ptA bx bz) 184)).past (.cells (fldA u) 97)).past (.cells Z8 184)).past (.cells Z8 184)
  have fbx := (((FldAt.box_x (w.alloc (.cells (ptA ax az) 184)) bx bz 184).past (.cells (fldA u) 97)).past (.cells Z8 184)).past (.cells Z8 184)
  have fbz := (((FldAt.box_z (w.alloc (.cells (ptA ax az) 184)) bx bz 184).past (.cells (fldA u) 97)).past (.cells Z8 184)).past (.cells Z8 184)
  have fu := ((FldAt.box ((w.alloc (.cells (ptA ax az) 184)).alloc (.cells (ptA bx bz) 184)) u 97).past (.cells Z8 184)).past (.cells Z8 184)
  have h6 : Blk (w.heap.size + 1 + 1 + 1) Z8 184 (((((w.alloc (.cells (ptA ax az) 184)).alloc (.cells (ptA bx bz) 184)).alloc (.cells (fldA u) 97)).alloc (.cells Z8 184)).alloc (.cells Z8 184)) := by
    unfold Blk
    rw [Below.heap_alloc _ _ _ (by simp)]
    have := heap_alloc_new (((w.alloc (.cells (ptA ax az) 184)).alloc (.cells (ptA bx bz) 184)).alloc (.cells (fldA u) 97)) (.cells Z8 184)
    simpa using this
  have h7 : Blk (w.heap.size + 1 + 1 + 1 + 1) Z8 184 (((((w.alloc (.cells (ptA ax az) 184)).alloc (.cells (ptA bx bz) 184)).alloc (.cells (fldA u) 97)).alloc (.cells Z8 184)).alloc (.cells Z8 184)) := by
    unfold Blk
    have := heap_alloc_new ((((w.alloc (.cells (ptA ax az) 184)).alloc (.cells (ptA bx bz) 184)).alloc (.cells (fldA u) 97)).alloc (.cells Z8 184)) (.cells Z8 184)
    simpa using this
  have ht : TabP (((((w.alloc (.cells (ptA ax az) 184)).alloc (.cells (ptA bx bz) 184)).alloc (.cells (fldA u) 97)).alloc (.cells Z8 184)).alloc (.cells Z8 184)) := hp.below hB hp.1
  have hM : w.heap.size + 1 + 1 + 1 + 1 + 1 ≤ (((((w.alloc (.cells (ptA ax az) 184)).alloc (.cells (ptA bx bz) 184)).alloc (.cells (fldA u) 97)).alloc (.cells Z8 184)).alloc (.cells Z8 184)).heap.size := by simp
  have HN := Lib.hid (show w.heap.size + 1 + 1 + 1 < w.heap.size + 1 + 1 + 1 + 1 + 1 ∧ w.heap.size + 1 + 1 + 1 + 1 < w.heap.size + 1 + 1 + 1 + 1 + 1 ∧ w.heap.size + 1 + 1 ≠ w.heap.size + 1 + 1 + 1 ∧ w.heap.size + 1 + 1 ≠ w.heap.size + 1 + 1 + 1 + 1 ∧ w.heap.size + 1 + 1 + 1 ≠ w.heap.size + 1 + 1 + 1 + 1 ∧ 0 ≠ w.heap.size + 1 + 1 + 1 ∧ 0 ≠ w.heap.size + 1 + 1 + 1 + 1 ∧ w.heap.size ≤ w.heap.size + 1 + 1 + 1 ∧ w.heap.size ≤ w.heap.size + 1 + 1 + 1 + 1 by have := hp.1; omega)
  clear hp
  simp only [World.size_alloc] at fbx fbz fu
  generalize (((((w.alloc (.cells (ptA ax az) 184)).alloc (.cells (ptA bx bz) 184)).alloc (.cells (fldA u) 97)).alloc (.cells Z8 184)).alloc (.cells Z8 184)) = x0 at *
  generalize w.heap.size + 1 + 1 + 1 + 1 + 1 = M at *
  generalize w.heap.size + 1 + 1 + 1 + 1 = g7 at *
  generalize w.heap.size + 1 + 1 + 1 = g6 at *
  generalize w.heap.size + 1 + 1 = gu at *
  generalize w.heap.size + 1 = gb at *
  obtain ⟨ga, hga⟩ : ∃ g, g = w.heap.size := ⟨_, rfl⟩
  rw [← hga] at fax faz ⊢
  have HGA := Lib.hid hga
  clear hga
  go_upto_region 1 with (fail)
  refine region_all 14 (kdAt [.val (.pointer (some ⟨ga, 0, none⟩)), .val (.agg (fldA ax)), .val (.pointer (some ⟨ga, 4, none⟩)), .val (.agg (fldA az)), .val (.agg (fldA s)), .val (.pointer (some ⟨ga, 0, none⟩)), .val (.agg (fldA ax)), .val (.pointer (some ⟨ga, 4, none⟩)), .val (.agg (fldA az)), .val (.agg (fldA d)), .new 97 Z4, .new 97 Z4, .put 10 97 (fldA s), .put 11 97 (fldA d)]) [some 18, some 19, some 20, some 21, some 22, some 23, some 24, some 25, some 26, some 27, some 8, some 9, none, none] (by kernel_rfl) rfl (by kernel_rfl) (by kernel_rfl) (by kernel_rfl) (by kernel_rfl) ?_ ?_
  · repeat refine allS ?_ ?_
    · exact all0
    · exact stepField (.pointer (some ⟨ga, 0, none⟩)) rfl rfl rfl rfl (src_old (by kernel_rfl) rfl) (fun w => fx _ w)
    · exact stepLoad (.pointer (some ⟨ga, 0, none⟩)) rfl rfl rfl rfl (src_new 0 (by decide) rfl rfl (by kernel_rfl)) (fun w hk => FldAt.ld (fax.below (hk.below (nh0 rfl))))
    · exact stepField (.pointer (some ⟨ga, 0, none⟩)) rfl rfl rfl rfl (src_old (by kernel_rfl) rfl) (fun w => fz _ w)
    · exact stepLoad (.pointer (some ⟨ga, 4, none⟩)) rfl rfl rfl rfl (src_new 2 (by decide) rfl rfl (by kernel_rfl)) (fun w hk => FldAt.ld (faz.below (hk.below (nh0 rfl))))
    · exact stepCall (ks := [19, 21]) [.agg (fldA ax), .agg (fldA az)] rfl rfl rfl rfl cfPlus rfl (src2 (src_new 1 (by decide) rfl rfl (by kernel_rfl)) (src_new 3 (by decide) rfl rfl (by kernel_rfl))) (fun w hk => fAdd_any ax az s w Es.out Bax.out Baz.out (ht.below (hk.below (nh0 rfl)) ht.1))
    · exact stepField (.pointer (some ⟨ga, 0, none⟩)) rfl rfl rfl rfl (src_old (by kernel_rfl) rfl) (fun w => fx _ w)
    · exact stepLoad (.pointer (some ⟨ga, 0, none⟩)) rfl rfl rfl rfl (src_new 5 (by decide) rfl rfl (by kernel_rfl)) (fun w hk => FldAt.ld (fax.below (hk.below (nh0 rfl))))
    · exact stepField (.pointer (some ⟨ga, 0, none⟩)) rfl rfl rfl rfl (src_old (by kernel_rfl) rfl) (fun w => fz _ w)
    · exact stepLoad (.pointer (some ⟨ga, 4, none⟩)) rfl rfl rfl rfl (src_new 7 (by decide) rfl rfl (by kernel_rfl)) (fun w hk => FldAt.ld (faz.below (hk.below (nh0 rfl))))
    · exact stepCall (ks := [24, 26]) [.agg (fldA ax), .agg (fldA az)] rfl rfl rfl rfl cfMinus rfl (src2 (src_new 6 (by decide) rfl rfl (by kernel_rfl)) (src_new 8 (by decide) rfl rfl (by kernel_rfl))) (fun w hk => fSub_any ax az d w Ed.out Bax.out Baz.out (ht.below (hk.below (nh0 rfl)) ht.1))
    · exact stepNew rfl rfl rfl rfl alF
    · exact stepNew rfl rfl rfl rfl alF
    · exact stepPut (Z := Z4) (d := 8) (k := 22) rfl rfl rfl rfl rfl (by decide) rfl (by kernel_rfl) rfl (zszN s) (src_new 4 (by decide) rfl rfl (by kernel_rfl)) (fszN s) (oneN s) (uniq_of rfl)
    · exact stepPut (Z := Z4) (d := 9) (k := 27) rfl rfl rfl rfl rfl (by decide) rfl (by kernel_rfl) rfl (zszN d) (src_new 9 (by decide) rfl rfl (by kernel_rfl)) (fszN d) (oneN d) (uniq_of rfl)
  intro v x1 hok hk
  replace hk := hk.all
  have v0 := okVal hok (j := 0) rfl rfl
  have v1 := okVal hok (j := 1) rfl rfl
  have v2 := okVal hok (j := 2) rfl rfl
  have v3 := okVal hok (j := 3) rfl rfl
  have v4 := okVal hok (j := 4) rfl rfl
  have v5 := okVal hok (j := 5) rfl rfl
  have v6 := okVal hok (j := 6) rfl rfl
  have v7 := okVal hok (j := 7) rfl rfl
  have v8 := okVal hok (j := 8) rfl rfl
  have v9 := okVal hok (j := 9) rfl rfl
  obtain ⟨g8, v10, k8, l8⟩ := okRowB hok (i := 12) (j := 10) rfl rfl rfl rfl
  obtain ⟨g9, v11, k9, l9⟩ := okRowB hok (i := 13) (j := 11) rfl rfl rfl rfl
  have n8_9 := okNe hok (i := 10) (j := 11) rfl rfl rfl rfl (by decide) v10 v11
  clear hok
  simp only [putL, Nat.zero_add, Nat.reduceAdd, v0, v1, v2, v3, v4, v5, v6, v7, v8, v9, v10, v11, Act.put, List.setIfInBounds_toArray, List.set_cons_zero, List.set_cons_succ]
  clear v0 v1 v2 v3 v4 v5 v6 v7 v8 v9 v10 v11
  replace l8 := Nat.le_trans hM l8
  replace l9 := Nat.le_trans hM l9
  replace fax := fax.below (hk.below (nh0 rfl))
  replace faz := faz.below (hk.below (nh0 rfl))
  replace fbx := fbx.below (hk.below (nh0 rfl))
  replace fbz := fbz.below (hk.below (nh0 rfl))
  replace fu := fu.below (hk.below (nh0 rfl))
  replace h6 := h6.below (hk.below (nh0 rfl))
  replace h7 := h7.below (hk.below (nh0 rfl))
  replace ht := ht.below (hk.below (nh0 rfl)) ht.1
  have f8 := FldAt.blk k8
  clear k8
  have f9 := FldAt.blk k9
  clear k9
  replace hM := Nat.le_trans hM hk.size
  replace hB := hB.trans ((hk.below (nh0 rfl)).mono hB.size)
  clear hk
  go_upto_region 2 with (fail)
  refine region_all 10 (kdAt [.val (.agg (fldA s)), .val (.agg (fldA s)), .val (.agg (fldA ss)), .val (.agg (fldA d)), .val (.agg (fldA d)), .val (.agg (fldA dd)), .new 97 Z4, .new 97 Z4, .put 6 97 (fldA ss), .put 7 97 (fldA dd)]) [some 28, some 29, some 30, some 31, some 32, some 33, some 10, some 11, none, none] (by kernel_rfl) rfl (by kernel_rfl) (by kernel_rfl) (by kernel_rfl) (by kernel_rfl) ?_ ?_
  · repeat refine allS ?_ ?_
    · exact all0
    · exact stepLoad (.pointer (some ⟨g8, 0, none⟩)) rfl rfl rfl rfl (src_old (by kernel_rfl) rfl) (fun w hk => FldAt.ld (f8.below (hk.below (nh0 rfl))))
    · exact stepLoad (.pointer (some ⟨g8, 0, none⟩)) rfl rfl rfl rfl (src_old (by kernel_rfl) rfl) (fun w hk => FldAt.ld (f8.below (hk.below (nh0 rfl))))
    · exact stepCall (ks := [28, 29]) [.agg (fldA s), .agg (fldA s)] rfl rfl rfl rfl cfTimes rfl (src2 (src_new 0 (by decide) rfl rfl (by kernel_rfl)) (src_new 1 (by decide) rfl rfl (by kernel_rfl))) (fun w hk => fMul_any s s ss w Ess.out Bs.out Bs.out (ht.below (hk.below (nh0 rfl)) ht.1))
    · exact stepLoad (.pointer (some ⟨g9, 0, none⟩)) rfl rfl rfl rfl (src_old (by kernel_rfl) rfl) (fun w hk => FldAt.ld (f9.below (hk.below (nh0 rfl))))
    · exact stepLoad (.pointer (some ⟨g9, 0, none⟩)) rfl rfl rfl rfl (src_old (by kernel_rfl) rfl) (fun w hk => FldAt.ld (f9.below (hk.below (nh0 rfl))))
    · exact stepCall (ks := [31, 32]) [.agg (fldA d), .agg (fldA d)] rfl rfl rfl rfl cfTimes rfl (src2 (src_new 3 (by decide) rfl rfl (by kernel_rfl)) (src_new 4 (by decide) rfl rfl (by kernel_rfl))) (fun w hk => fMul_any d d dd w Edd.out Bd.out Bd.out (ht.below (hk.below (nh0 rfl)) ht.1))
    · exact stepNew rfl rfl rfl rfl alF
    · exact stepNew rfl rfl rfl rfl alF
    · exact stepPut (Z := Z4) (d := 10) (k := 30) rfl rfl rfl rfl rfl (by decide) rfl (by kernel_rfl) rfl (zszN ss) (src_new 2 (by decide) rfl rfl (by kernel_rfl)) (fszN ss) (oneN ss) (uniq_of rfl)
    · exact stepPut (Z := Z4) (d := 11) (k := 33) rfl rfl rfl rfl rfl (by decide) rfl (by kernel_rfl) rfl (zszN dd) (src_new 5 (by decide) rfl rfl (by kernel_rfl)) (fszN dd) (oneN dd) (uniq_of rfl)
  intro v x2 hok hk
  replace hk := hk.all
  have v0 := okVal hok (j := 0) rfl rfl
  have v1 := okVal hok (j := 1) rfl rfl
  have v2 := okVal hok (j := 2) rfl rfl
  have v3 := okVal hok (j := 3) rfl rfl
  have v4 := okVal hok (j := 4) rfl rfl
  have v5 := okVal hok (j := 5) rfl rfl
  obtain ⟨g10, v6, k10, l10⟩ := okRowB hok (i := 8) (j := 6) rfl rfl rfl rfl
  obtain ⟨g11, v7, k11, l11⟩ := okRowB hok (i := 9) (j := 7) rfl rfl rfl rfl
  have n10_11 := okNe hok (i := 6) (j := 7) rfl rfl rfl rfl (by decide) v6 v7
  clear hok
  simp only [putL, Nat.zero_add, Nat.reduceAdd, v0, v1, v2, v3, v4, v5, v6, v7, Act.put, List.setIfInBounds_toArray, List.set_cons_zero, List.set_cons_succ]
  clear v0 v1 v2 v3 v4 v5 v6 v7
  clear fax
  clear faz
  replace l10 := Nat.le_trans hM l10
  replace l11 := Nat.le_trans hM l11
  replace fbx := fbx.below (hk.below (nh0 rfl))
  replace fbz := fbz.below (hk.below (nh0 rfl))
  replace fu := fu.below (hk.below (nh0 rfl))
  replace h6 := h6.below (hk.below (nh0 rfl))
  replace h7 := h7.below (hk.below (nh0 rfl))
  replace ht := ht.below (hk.below (nh0 rfl)) ht.1
  replace f8 := f8.below (hk.below (nh0 rfl))
  replace f9 := f9.below (hk.below (nh0 rfl))
  have f10 := FldAt.blk k10
  clear k10
  have f11 := FldAt.blk k11
  clear k11
  replace hM := Nat.le_trans hM hk.size
  replace hB := hB.trans ((hk.below (nh0 rfl)).mono hB.size)
  clear hk
  go_upto_region 3 with (fail)
  refine region_seq 5 (kdAt [.val (.agg (fldA ss)), .val (.agg (fldA dd)), .val (.agg (fldA g)), .new 97 Z4, .put 3 97 (fldA g)]) [some 34, some 35, some 36, some 12, none] (by decide) (by kernel_rfl) (by kernel_rfl) (by kernel_rfl) (by kernel_rfl) ?_ ?_
  · repeat refine allS ?_ ?_
    · exact all0
    · exact stepLoad (.pointer (some ⟨g10, 0, none⟩)) rfl rfl rfl rfl (src_old (by kernel_rfl) rfl) (fun w hk => FldAt.ld (f10.below (hk.below (nh0 rfl))))
    · exact stepLoad (.pointer (some ⟨g11, 0, none⟩)) rfl rfl rfl rfl (src_old (by kernel_rfl) rfl) (fun w hk => FldAt.ld (f11.below (hk.below (nh0 rfl))))
    · exact stepCall (ks := [34, 35]) [.agg (fldA ss), .agg (fldA dd)] rfl rfl rfl rfl cfMinus rfl (src2 (src_new 0 (by decide) rfl rfl (by kernel_rfl)) (src_new 1 (by decide) rfl rfl (by kernel_rfl))) (fun w hk => fSub_any ss dd g w Eg.out Bss.out Bdd.out (ht.below (hk.below (nh0 rfl)) ht.1))
    · exact stepNew rfl rfl rfl rfl alF
    · exact stepPut (Z := Z4) (d := 12) (k := 36) rfl rfl rfl rfl rfl (by decide) rfl (by kernel_rfl) rfl (zszN g) (src_new 2 (by decide) rfl rfl (by kernel_rfl)) (fszN g) (oneN g) (uniq_of rfl)
  intro v x3 hok hk
  replace hk := hk.all
  refine wpList_nil ?_
  have v0 := okVal hok (j := 0) rfl rfl
  have v1 := okVal hok (j := 1) rfl rfl
  have v2 := okVal hok (j := 2) rfl rfl
  obtain ⟨g12, v3, k12, l12⟩ := okRowB hok (i := 4) (j := 3) rfl rfl rfl rfl
  clear hok
  simp only [putL, Nat.zero_add, Nat.reduceAdd, v0, v1, v2, v3, Act.put, List.setIfInBounds_toArray, List.set_cons_zero, List.set_cons_succ]
  clear v0 v1 v2 v3
  replace l12 := Nat.le_trans hM l12
  replace fbx := fbx.below (hk.below (nh0 rfl))
  replace fbz := fbz.below (hk.below (nh0 rfl))
  replace fu := fu.below (hk.below (nh0 rfl))
  replace h6 := h6.below (hk.below (nh0 rfl))
  replace h7 := h7.below (hk.below (nh0 rfl))
  replace ht := ht.below (hk.below (nh0 rfl)) ht.1
  replace f8 := f8.below (hk.below (nh0 rfl))
  replace f9 := f9.below (hk.below (nh0 rfl))
  replace f10 := f10.below (hk.below (nh0 rfl))
  replace f11 := f11.below (hk.below (nh0 rfl))
  have f12 := FldAt.blk k12
  clear k12
  replace hM := Nat.le_trans hM hk.size
  replace hB := hB.trans ((hk.below (nh0 rfl)).mono hB.size)
  clear hk
  go_upto_region 4 with (fail)
  refine region_all 13 (kdAt [.val (.agg (fldA ss)), .val (.agg (fldA dd)), .val (.agg (fldA X)), .val (.agg (fldA g)), .val (.agg (fldA ss)), .val (.agg (fldA g)), .val (.agg (fldA 121665)), .val (.agg (fldA gc)), .val (.agg (fldA gs)), .val (.agg (fldA Z)), .val (.agg (ptA X Z)), .new 184 Z8, .put 11 184 (ptA X Z)]) [some 37, some 38, some 39, some 40, some 41, some 42, some 43, some 44, some 45, some 46, some 47, some 13, none] (by kernel_rfl) rfl (by kernel_rfl) (by kernel_rfl) (by kernel_rfl) (by kernel_rfl) ?_ ?_
  · repeat refine allS ?_ ?_
    · exact all0
    · exact stepLoad (.pointer (some ⟨g10, 0, none⟩)) rfl rfl rfl rfl (src_old (by kernel_rfl) rfl) (fun w hk => FldAt.ld (f10.below (hk.below (nh0 rfl))))
    · exact stepLoad (.pointer (some ⟨g11, 0, none⟩)) rfl rfl rfl rfl (src_old (by kernel_rfl) rfl) (fun w hk => FldAt.ld (f11.below (hk.below (nh0 rfl))))
    · exact stepCall (ks := [37, 38]) [.agg (fldA ss), .agg (fldA dd)] rfl rfl rfl rfl cfTimes rfl (src2 (src_new 0 (by decide) rfl rfl (by kernel_rfl)) (src_new 1 (by decide) rfl rfl (by kernel_rfl))) (fun w hk => fMul_any ss dd X w EX.out Bss.out Bdd.out (ht.below (hk.below (nh0 rfl)) ht.1))
    · exact stepLoad (.pointer (some ⟨g12, 0, none⟩)) rfl rfl rfl rfl (src_old (by kernel_rfl) rfl) (fun w hk => FldAt.ld (f12.below (hk.below (nh0 rfl))))
    · exact stepLoad (.pointer (some ⟨g10, 0, none⟩)) rfl rfl rfl rfl (src_old (by kernel_rfl) rfl) (fun w hk => FldAt.ld (f10.below (hk.below (nh0 rfl))))
    · exact stepLoad (.pointer (some ⟨g12, 0, none⟩)) rfl rfl rfl rfl (src_old (by kernel_rfl) rfl) (fun w hk => FldAt.ld (f12.below (hk.below (nh0 rfl))))
    · exact stepBuild [] #[(0, .int .u64 121665)] rfl rfl rfl rfl (fun p hp => by cases hp) (fun a ha => by simp [Act.eval]) (fun w => bF 121665 (by decide) w)
    · exact stepCall (ks := [42, 43]) [.agg (fldA g), .agg (fldA 121665)] rfl rfl rfl rfl cfTimes rfl (src2 (src_new 5 (by decide) rfl rfl (by kernel_rfl)) (src_new 6 (by decide) rfl rfl (by kernel_rfl))) (fun w hk => fMul_any g 121665 gc w Egc.out Bg.out B121665.out (ht.below (hk.below (nh0 rfl)) ht.1))
    · exact stepCall (ks := [41, 44]) [.agg (fldA ss), .agg (fldA gc)] rfl rfl rfl rfl cfPlus rfl (src2 (src_new 4 (by decide) rfl rfl (by kernel_rfl)) (src_new 7 (by decide) rfl rfl (by kernel_rfl))) (fun w hk => fAdd_any ss gc gs w Egs.out Bss.out Bgc.out (ht.below (hk.below (nh0 rfl)) ht.1))
    · exact stepCall (ks := [40, 45]) [.agg (fldA g), .agg (fldA gs)] rfl rfl rfl rfl cfTimes rfl (src2 (src_new 3 (by decide) rfl rfl (by kernel_rfl)) (src_new 8 (by decide) rfl rfl (by kernel_rfl))) (fun w hk => fMul_any g gs Z w EZ.out Bg.out Bgs.out (ht.below (hk.below (nh0 rfl)) ht.1))
    · exact stepBuild [(39, .agg (fldA X)), (46, .agg (fldA Z))] #[(0, .agg (fldA X)), (1, .agg (fldA Z))] rfl rfl rfl rfl (srcN2 (src_new 2 (by decide) rfl rfl (by kernel_rfl)) (src_new 9 (by decide) rfl rfl (by kernel_rfl))) (fun a ha => by simp [show a.eval (.tmp 39) = .agg (fldA X) from ha (39, .agg (fldA X)) (by simp), show a.eval (.tmp 46) = .agg (fldA Z) from ha (46, .agg (fldA Z)) (by simp)]) (fun w => bP X Z w)
    · exact stepNew rfl rfl rfl rfl alP
    · exact stepPut (Z := Z8) (d := 13) (k := 47) rfl rfl rfl rfl rfl (by decide) rfl (by kernel_rfl) rfl (z8p X Z) (src_new 10 (by decide) rfl rfl (by kernel_rfl)) (ptSz X Z) (ptOne X Z) (uniq_of rfl)
  intro v x4 hok hk
  replace hk := hk.all
  have v0 := okVal hok (j := 0) rfl rfl
  have v1 := okVal hok (j := 1) rfl rfl
  have v2 := okVal hok (j := 2) rfl rfl
  have v3 := okVal hok (j := 3) rfl rfl
  have v4 := okVal hok (j := 4) rfl rfl
  have v5 := okVal hok (j := 5) rfl rfl
  have v6 := okVal hok (j := 6) rfl rfl
  have v7 := okVal hok (j := 7) rfl rfl
  have v8 := okVal hok (j := 8) rfl rfl
  have v9 := okVal hok (j := 9) rfl rfl
  have v10 := okVal hok (j := 10) rfl rfl
  obtain ⟨g13, v11, k13, l13⟩ := okRowB hok (i := 12) (j := 11) rfl rfl rfl rfl
  clear hok
  simp only [putL, Nat.zero_add, Nat.reduceAdd, v0, v1, v2, v3, v4, v5, v6, v7, v8, v9, v10, v11, Act.put, List.setIfInBounds_toArray, List.set_cons_zero, List.set_cons_succ]
  clear v0 v1 v2 v3 v4 v5 v6 v7 v8 v9 v10 v11
  replace l13 := Nat.le_trans hM l13
  replace fbx := fbx.below (hk.below (nh0 rfl))
  replace fbz := fbz.below (hk.below (nh0 rfl))
  replace fu := fu.below (hk.below (nh0 rfl))
  replace h6 := h6.below (hk.below (nh0 rfl))
  replace h7 := h7.below (hk.below (nh0 rfl))
  replace ht := ht.below (hk.below (nh0 rfl)) ht.1
  replace f8 := f8.below (hk.below (nh0 rfl))
  replace f9 := f9.below (hk.below (nh0 rfl))
  replace f10 := f10.below (hk.below (nh0 rfl))
  replace f11 := f11.below (hk.below (nh0 rfl))
  replace f12 := f12.below (hk.below (nh0 rfl))
  have f13 : Blk g13 (ptA X Z) 184 x4 := k13
  clear k13
  replace hM := Nat.le_trans hM hk.size
  replace hB := hB.trans ((hk.below (nh0 rfl)).mono hB.size)
  clear hk
  go_upto_region 5 with (fail)
  refine region_all 9 (kdAt [.val (.pointer (some ⟨gb, 0, none⟩)), .val (.agg (fldA bx)), .val (.pointer (some ⟨gb, 4, none⟩)), .val (.agg (fldA bz)), .val (.agg (fldA bm)), .val (.agg (fldA s)), .val (.agg (fldA l)), .new 97 Z4, .put 7 97 (fldA l)]) [some 48, some 49, some 50, some 51, some 52, some 53, some 54, some 14, none] (by kernel_rfl) rfl (by kernel_rfl) (by kernel_rfl) (by kernel_rfl) (by kernel_rfl) ?_ ?_
  · repeat refine allS ?_ ?_
    · exact all0
    · exact stepField (.pointer (some ⟨gb, 0, none⟩)) rfl rfl rfl rfl (src_old (by kernel_rfl) rfl) (fun w => fx _ w)
    · exact stepLoad (.pointer (some ⟨gb, 0, none⟩)) rfl rfl rfl rfl (src_new 0 (by decide) rfl rfl (by kernel_rfl)) (fun w hk => FldAt.ld (fbx.below (hk.below (nh0 rfl))))
    · exact stepField (.pointer (some ⟨gb, 0, none⟩)) rfl rfl rfl rfl (src_old (by kernel_rfl) rfl) (fun w => fz _ w)
    · exact stepLoad (.pointer (some ⟨gb, 4, none⟩)) rfl rfl rfl rfl (src_new 2 (by decide) rfl rfl (by kernel_rfl)) (fun w hk => FldAt.ld (fbz.below (hk.below (nh0 rfl))))
    · exact stepCall (ks := [49, 51]) [.agg (fldA bx), .agg (fldA bz)] rfl rfl rfl rfl cfMinus rfl (src2 (src_new 1 (by decide) rfl rfl (by kernel_rfl)) (src_new 3 (by decide) rfl rfl (by kernel_rfl))) (fun w hk => fSub_any bx bz bm w Ebm.out Bbx.out Bbz.out (ht.below (hk.below (nh0 rfl)) ht.1))
    · exact stepLoad (.pointer (some ⟨g8, 0, none⟩)) rfl rfl rfl rfl (src_old (by kernel_rfl) rfl) (fun w hk => FldAt.ld (f8.below (hk.below (nh0 rfl))))
    · exact stepCall (ks := [52, 53]) [.agg (fldA bm), .agg (fldA s)] rfl rfl rfl rfl cfTimes rfl (src2 (src_new 4 (by decide) rfl rfl (by kernel_rfl)) (src_new 5 (by decide) rfl rfl (by kernel_rfl))) (fun w hk => fMul_any bm s l w El.out Bbm.out Bs.out (ht.below (hk.below (nh0 rfl)) ht.1))
    · exact stepNew rfl rfl rfl rfl alF
    · exact stepPut (Z := Z4) (d := 14) (k := 54) rfl rfl rfl rfl rfl (by decide) rfl (by kernel_rfl) rfl (zszN l) (src_new 6 (by decide) rfl rfl (by kernel_rfl)) (fszN l) (oneN l) (uniq_of rfl)
  intro v x5 hok hk
  replace hk := hk.all
  have v0 := okVal hok (j := 0) rfl rfl
  have v1 := okVal hok (j := 1) rfl rfl
  have v2 := okVal hok (j := 2) rfl rfl
  have v3 := okVal hok (j := 3) rfl rfl
  have v4 := okVal hok (j := 4) rfl rfl
  have v5 := okVal hok (j := 5) rfl rfl
  have v6 := okVal hok (j := 6) rfl rfl
  obtain ⟨g14, v7, k14, l14⟩ := okRowB hok (i := 8) (j := 7) rfl rfl rfl rfl
  clear hok
  simp only [putL, Nat.zero_add, Nat.reduceAdd, v0, v1, v2, v3, v4, v5, v6, v7, Act.put, List.setIfInBounds_toArray, List.set_cons_zero, List.set_cons_succ]
  clear v0 v1 v2 v3 v4 v5 v6 v7
  replace l14 := Nat.le_trans hM l14
  replace fbx := fbx.below (hk.below (nh0 rfl))
  replace fbz := fbz.below (hk.below (nh0 rfl))
  replace fu := fu.below (hk.below (nh0 rfl))
  replace h6 := h6.below (hk.below (nh0 rfl))
  replace h7 := h7.below (hk.below (nh0 rfl))
  replace ht := ht.below (hk.below (nh0 rfl)) ht.1
  replace f8 := f8.below (hk.below (nh0 rfl))
  replace f9 := f9.below (hk.below (nh0 rfl))
  replace f10 := f10.below (hk.below (nh0 rfl))
  replace f11 := f11.below (hk.below (nh0 rfl))
  replace f12 := f12.below (hk.below (nh0 rfl))
  replace f13 := f13.below (hk.below (nh0 rfl))
  have f14 := FldAt.blk k14
  clear k14
  replace hM := Nat.le_trans hM hk.size
  replace hB := hB.trans ((hk.below (nh0 rfl)).mono hB.size)
  clear hk
  go_upto_region 6 with (fail)
  refine region_all 9 (kdAt [.val (.pointer (some ⟨gb, 0, none⟩)), .val (.agg (fldA bx)), .val (.pointer (some ⟨gb, 4, none⟩)), .val (.agg (fldA bz)), .val (.agg (fldA bp)), .val (.agg (fldA d)), .val (.agg (fldA r)), .new 97 Z4, .put 7 97 (fldA r)]) [some 55, some 56, some 57, some 58, some 59, some 60, some 61, some 15, none] (by kernel_rfl) rfl (by kernel_rfl) (by kernel_rfl) (by kernel_rfl) (by kernel_rfl) ?_ ?_
  · repeat refine allS ?_ ?_
    · exact all0
    · exact stepField (.pointer (some ⟨gb, 0, none⟩)) rfl rfl rfl rfl (src_old (by kernel_rfl) rfl) (fun w => fx _ w)
    · exact stepLoad (.pointer (some ⟨gb, 0, none⟩)) rfl rfl rfl rfl (src_new 0 (by decide) rfl rfl (by kernel_rfl)) (fun w hk => FldAt.ld (fbx.below (hk.below (nh0 rfl))))
    · exact stepField (.pointer (some ⟨gb, 0, none⟩)) rfl rfl rfl rfl (src_old (by kernel_rfl) rfl) (fun w => fz _ w)
    · exact stepLoad (.pointer (some ⟨gb, 4, none⟩)) rfl rfl rfl rfl (src_new 2 (by decide) rfl rfl (by kernel_rfl)) (fun w hk => FldAt.ld (fbz.below (hk.below (nh0 rfl))))
    · exact stepCall (ks := [56, 58]) [.agg (fldA bx), .agg (fldA bz)] rfl rfl rfl rfl cfPlus rfl (src2 (src_new 1 (by decide) rfl rfl (by kernel_rfl)) (src_new 3 (by decide) rfl rfl (by kernel_rfl))) (fun w hk => fAdd_any bx bz bp w Ebp.out Bbx.out Bbz.out (ht.below (hk.below (nh0 rfl)) ht.1))
    · exact stepLoad (.pointer (some ⟨g9, 0, none⟩)) rfl rfl rfl rfl (src_old (by kernel_rfl) rfl) (fun w hk => FldAt.ld (f9.below (hk.below (nh0 rfl))))
    · exact stepCall (ks := [59, 60]) [.agg (fldA bp), .agg (fldA d)] rfl rfl rfl rfl cfTimes rfl (src2 (src_new 4 (by decide) rfl rfl (by kernel_rfl)) (src_new 5 (by decide) rfl rfl (by kernel_rfl))) (fun w hk => fMul_any bp d r w Er.out Bbp.out Bd.out (ht.below (hk.below (nh0 rfl)) ht.1))
    · exact stepNew rfl rfl rfl rfl alF
    · exact stepPut (Z := Z4) (d := 15) (k := 61) rfl rfl rfl rfl rfl (by decide) rfl (by kernel_rfl) rfl (zszN r) (src_new 6 (by decide) rfl rfl (by kernel_rfl)) (fszN r) (oneN r) (uniq_of rfl)
  intro v x6 hok hk
  replace hk := hk.all
  have v0 := okVal hok (j := 0) rfl rfl
  have v1 := okVal hok (j := 1) rfl rfl
  have v2 := okVal hok (j := 2) rfl rfl
  have v3 := okVal hok (j := 3) rfl rfl
  have v4 := okVal hok (j := 4) rfl rfl
  have v5 := okVal hok (j := 5) rfl rfl
  have v6 := okVal hok (j := 6) rfl rfl
  obtain ⟨g15, v7, k15, l15⟩ := okRowB hok (i := 8) (j := 7) rfl rfl rfl rfl
  clear hok
  simp only [putL, Nat.zero_add, Nat.reduceAdd, v0, v1, v2, v3, v4, v5, v6, v7, Act.put, List.setIfInBounds_toArray, List.set_cons_zero, List.set_cons_succ]
  clear v0 v1 v2 v3 v4 v5 v6 v7
  replace l15 := Nat.le_trans hM l15
  replace fbx := fbx.below (hk.below (nh0 rfl))
  replace fbz := fbz.below (hk.below (nh0 rfl))
  replace fu := fu.below (hk.below (nh0 rfl))
  replace h6 := h6.below (hk.below (nh0 rfl))
  replace h7 := h7.below (hk.below (nh0 rfl))
  replace ht := ht.below (hk.below (nh0 rfl)) ht.1
  replace f8 := f8.below (hk.below (nh0 rfl))
  replace f9 := f9.below (hk.below (nh0 rfl))
  replace f10 := f10.below (hk.below (nh0 rfl))
  replace f11 := f11.below (hk.below (nh0 rfl))
  replace f12 := f12.below (hk.below (nh0 rfl))
  replace f13 := f13.below (hk.below (nh0 rfl))
  replace f14 := f14.below (hk.below (nh0 rfl))
  have f15 := FldAt.blk k15
  clear k15
  replace hM := Nat.le_trans hM hk.size
  replace hB := hB.trans ((hk.below (nh0 rfl)).mono hB.size)
  clear hk
  go_upto_region 7 with (fail)
  refine region_all 10 (kdAt [.val (.agg (fldA l)), .val (.agg (fldA r)), .val (.agg (fldA p)), .val (.agg (fldA l)), .val (.agg (fldA r)), .val (.agg (fldA q)), .new 97 Z4, .new 97 Z4, .put 6 97 (fldA p), .put 7 97 (fldA q)]) [some 62, some 63, some 64, some 65, some 66, some 67, some 16, some 17, none, none] (by kernel_rfl) rfl (by kernel_rfl) (by kernel_rfl) (by kernel_rfl) (by kernel_rfl) ?_ ?_
  · repeat refine allS ?_ ?_
    · exact all0
    · exact stepLoad (.pointer (some ⟨g14, 0, none⟩)) rfl rfl rfl rfl (src_old (by kernel_rfl) rfl) (fun w hk => FldAt.ld (f14.below (hk.below (nh0 rfl))))
    · exact stepLoad (.pointer (some ⟨g15, 0, none⟩)) rfl rfl rfl rfl (src_old (by kernel_rfl) rfl) (fun w hk => FldAt.ld (f15.below (hk.below (nh0 rfl))))
    · exact stepCall (ks := [62, 63]) [.agg (fldA l), .agg (fldA r)] rfl rfl rfl rfl cfPlus rfl (src2 (src_new 0 (by decide) rfl rfl (by kernel_rfl)) (src_new 1 (by decide) rfl rfl (by kernel_rfl))) (fun w hk => fAdd_any l r p w Ep.out Bl.out Br.out (ht.below (hk.below (nh0 rfl)) ht.1))
    · exact stepLoad (.pointer (some ⟨g14, 0, none⟩)) rfl rfl rfl rfl (src_old (by kernel_rfl) rfl) (fun w hk => FldAt.ld (f14.below (hk.below (nh0 rfl))))
    · exact stepLoad (.pointer (some ⟨g15, 0, none⟩)) rfl rfl rfl rfl (src_old (by kernel_rfl) rfl) (fun w hk => FldAt.ld (f15.below (hk.below (nh0 rfl))))
    · exact stepCall (ks := [65, 66]) [.agg (fldA l), .agg (fldA r)] rfl rfl rfl rfl cfMinus rfl (src2 (src_new 3 (by decide) rfl rfl (by kernel_rfl)) (src_new 4 (by decide) rfl rfl (by kernel_rfl))) (fun w hk => fSub_any l r q w Eq.out Bl.out Br.out (ht.below (hk.below (nh0 rfl)) ht.1))
    · exact stepNew rfl rfl rfl rfl alF
    · exact stepNew rfl rfl rfl rfl alF
    · exact stepPut (Z := Z4) (d := 16) (k := 64) rfl rfl rfl rfl rfl (by decide) rfl (by kernel_rfl) rfl (zszN p) (src_new 2 (by decide) rfl rfl (by kernel_rfl)) (fszN p) (oneN p) (uniq_of rfl)
    · exact stepPut (Z := Z4) (d := 17) (k := 67) rfl rfl rfl rfl rfl (by decide) rfl (by kernel_rfl) rfl (zszN q) (src_new 5 (by decide) rfl rfl (by kernel_rfl)) (fszN q) (oneN q) (uniq_of rfl)
  intro v x7 hok hk
  replace hk := hk.all
  have v0 := okVal hok (j := 0) rfl rfl
  have v1 := okVal hok (j := 1) rfl rfl
  have v2 := okVal hok (j := 2) rfl rfl
  have v3 := okVal hok (j := 3) rfl rfl
  have v4 := okVal hok (j := 4) rfl rfl
  have v5 := okVal hok (j := 5) rfl rfl
  obtain ⟨g16, v6, k16, l16⟩ := okRowB hok (i := 8) (j := 6) rfl rfl rfl rfl
  obtain ⟨g17, v7, k17, l17⟩ := okRowB hok (i := 9) (j := 7) rfl rfl rfl rfl
  have n16_17 := okNe hok (i := 6) (j := 7) rfl rfl rfl rfl (by decide) v6 v7
  clear hok
  simp only [putL, Nat.zero_add, Nat.reduceAdd, v0, v1, v2, v3, v4, v5, v6, v7, Act.put, List.setIfInBounds_toArray, List.set_cons_zero, List.set_cons_succ]
  clear v0 v1 v2 v3 v4 v5 v6 v7
  clear fbx
  clear fbz
  clear f8
  clear f9
  clear f10
  clear f11
  clear f12
  replace l16 := Nat.le_trans hM l16
  replace l17 := Nat.le_trans hM l17
  replace fu := fu.below (hk.below (nh0 rfl))
  replace h6 := h6.below (hk.below (nh0 rfl))
  replace h7 := h7.below (hk.below (nh0 rfl))
  replace ht := ht.below (hk.below (nh0 rfl)) ht.1
  replace f13 := f13.below (hk.below (nh0 rfl))
  replace f14 := f14.below (hk.below (nh0 rfl))
  replace f15 := f15.below (hk.below (nh0 rfl))
  have f16 := FldAt.blk k16
  clear k16
  have f17 := FldAt.blk k17
  clear k17
  replace hM := Nat.le_trans hM hk.size
  replace hB := hB.trans ((hk.below (nh0 rfl)).mono hB.size)
  clear hk
  go_upto_region 8 with (fail)
  refine region_all 12 (kdAt [.val (.agg (ptA X Z)), .val (.agg (fldA p)), .val (.agg (fldA p)), .val (.agg (fldA XX)), .val (.agg (fldA u)), .val (.agg (fldA q)), .val (.agg (fldA q)), .val (.agg (fldA qq)), .val (.agg (fldA ZZ)), .val (.agg (ptA XX ZZ)), .old g6 184 (ptA X Z), .old g7 184 (ptA XX ZZ)]) [some 68, some 69, some 70, some 71, some 72, some 73, some 74, some 75, some 76, some 77, none, none] (by kernel_rfl) rfl (by kernel_rfl) (by kernel_rfl) (by kernel_rfl) (by kernel_rfl) ?_ ?_
  · repeat refine allS ?_ ?_
    · exact all0
    · exact stepLoad (.pointer (some ⟨g13, 0, none⟩)) rfl rfl rfl rfl (src_old (by kernel_rfl) rfl) (fun w hk => ptld (f13.kept hk (nh2 rfl (ne_new HN.out.1 l13) (ne_new HN.out.2.1 l13))))
    · exact stepLoad (.pointer (some ⟨g16, 0, none⟩)) rfl rfl rfl rfl (src_old (by kernel_rfl) rfl) (fun w hk => FldAt.ld (f16.kept hk (nh2 rfl (ne_new HN.out.1 l16) (ne_new HN.out.2.1 l16))))
    · exact stepLoad (.pointer (some ⟨g16, 0, none⟩)) rfl rfl rfl rfl (src_old (by kernel_rfl) rfl) (fun w hk => FldAt.ld (f16.kept hk (nh2 rfl (ne_new HN.out.1 l16) (ne_new HN.out.2.1 l16))))
    · exact stepCall (ks := [69, 70]) [.agg (fldA p), .agg (fldA p)] rfl rfl rfl rfl cfTimes rfl (src2 (src_new 1 (by decide) rfl rfl (by kernel_rfl)) (src_new 2 (by decide) rfl rfl (by kernel_rfl))) (fun w hk => fMul_any p p XX w EXX.out Bp.out Bp.out (ht.kept hk (nh2 rfl HN.out.2.2.2.2.2.1 HN.out.2.2.2.2.2.2.1)))
    · exact stepLoad (.pointer (some ⟨gu, 0, none⟩)) rfl rfl rfl rfl (src_old (by kernel_rfl) rfl) (fun w hk => FldAt.ld (fu.kept hk (nh2 rfl HN.out.2.2.1 HN.out.2.2.2.1)))
    · exact stepLoad (.pointer (some ⟨g17, 0, none⟩)) rfl rfl rfl rfl (src_old (by kernel_rfl) rfl) (fun w hk => FldAt.ld (f17.kept hk (nh2 rfl (ne_new HN.out.1 l17) (ne_new HN.out.2.1 l17))))
    · exact stepLoad (.pointer (some ⟨g17, 0, none⟩)) rfl rfl rfl rfl (src_old (by kernel_rfl) rfl) (fun w hk => FldAt.ld (f17.kept hk (nh2 rfl (ne_new HN.out.1 l17) (ne_new HN.out.2.1 l17))))
    · exact stepCall (ks := [73, 74]) [.agg (fldA q), .agg (fldA q)] rfl rfl rfl rfl cfTimes rfl (src2 (src_new 5 (by decide) rfl rfl (by kernel_rfl)) (src_new 6 (by decide) rfl rfl (by kernel_rfl))) (fun w hk => fMul_any q q qq w Eqq.out Bq.out Bq.out (ht.kept hk (nh2 rfl HN.out.2.2.2.2.2.1 HN.out.2.2.2.2.2.2.1)))
    · exact stepCall (ks := [72, 75]) [.agg (fldA u), .agg (fldA qq)] rfl rfl rfl rfl cfTimes rfl (src2 (src_new 4 (by decide) rfl rfl (by kernel_rfl)) (src_new 7 (by decide) rfl rfl (by kernel_rfl))) (fun w hk => fMul_any u qq ZZ w EZZ.out Bu.out Bqq.out (ht.kept hk (nh2 rfl HN.out.2.2.2.2.2.1 HN.out.2.2.2.2.2.2.1)))
    · exact stepBuild [(71, .agg (fldA XX)), (76, .agg (fldA ZZ))] #[(0, .agg (fldA XX)), (1, .agg (fldA ZZ))] rfl rfl rfl rfl (srcN2 (src_new 3 (by decide) rfl rfl (by kernel_rfl)) (src_new 8 (by decide) rfl rfl (by kernel_rfl))) (fun a ha => by simp [show a.eval (.tmp 71) = .agg (fldA XX) from ha (71, .agg (fldA XX)) (by simp), show a.eval (.tmp 76) = .agg (fldA ZZ) from ha (76, .agg (fldA ZZ)) (by simp)]) (fun w => bP XX ZZ w)
    · exact stepOld (d := 6) (k := 68) rfl rfl rfl rfl rfl (src_old (by kernel_rfl) rfl) h6 (z8p _ _) (src_new 0 (by decide) rfl rfl (by kernel_rfl)) (ptSz X Z) (ptOne X Z) (two_old rfl HN.out.2.2.2.2.1).1
    · exact stepOld (d := 7) (k := 77) rfl rfl rfl rfl rfl (src_old (by kernel_rfl) rfl) h7 (z8p _ _) (src_new 9 (by decide) rfl rfl (by kernel_rfl)) (ptSz XX ZZ) (ptOne XX ZZ) (two_old rfl HN.out.2.2.2.2.1).2
  intro v x8 hok hk
  replace hk := hk.all
  have v0 := okVal hok (j := 0) rfl rfl
  have v1 := okVal hok (j := 1) rfl rfl
  have v2 := okVal hok (j := 2) rfl rfl
  have v3 := okVal hok (j := 3) rfl rfl
  have v4 := okVal hok (j := 4) rfl rfl
  have v5 := okVal hok (j := 5) rfl rfl
  have v6 := okVal hok (j := 6) rfl rfl
  have v7 := okVal hok (j := 7) rfl rfl
  have v8 := okVal hok (j := 8) rfl rfl
  have v9 := okVal hok (j := 9) rfl rfl
  have o10 := okOld hok (i := 10) rfl rfl
  have o11 := okOld hok (i := 11) rfl rfl
  clear hok
  simp only [putL, Nat.zero_add, Nat.reduceAdd, v0, v1, v2, v3, v4, v5, v6, v7, v8, v9, Act.put, List.setIfInBounds_toArray, List.set_cons_zero, List.set_cons_succ]
  clear v0 v1 v2 v3 v4 v5 v6 v7 v8 v9
  clear f14
  clear f15
  clear f13
  clear f16
  clear f17
  clear fu
  clear ht
  clear h6
  clear h7
  have f_g6 : Blk g6 (ptA X Z) 184 x8 := o10
  clear o10
  have f_g7 : Blk g7 (ptA XX ZZ) 184 x8 := o11
  clear o11
  replace hM := Nat.le_trans hM hk.size
  replace hB := hB.trans (hk.base hB.size (fun k hk => nh2 rfl (Nat.ne_of_lt (Nat.lt_of_lt_of_le hk HN.out.2.2.2.2.2.2.2.1)) (Nat.ne_of_lt (Nat.lt_of_lt_of_le hk HN.out.2.2.2.2.2.2.2.2))))
  clear hk
  go_wp2_with fail
  refine bodyPost_ret (v := .tuple #[.agg (ptA X Z), .agg (ptA XX ZZ)]) ?_ rfl ⟨rfl, hB⟩
  exact results_row2 Tryd.results177 _ _ g6 g7 184 _ _ (0, 0) _ rfl rfl f_g6 f_g7 Tryd.underlying184 rfl (ptSz _ _) (ptSz _ _)

theorem stepped_any (a b : Nat × Nat) (u : Nat) (w : World) (h1 : a.1 < P25n) (h2 : a.2 < P25n) (h3 : b.1 < P25n) (h4 : b.2 < P25n) (h5 : u < P25n) (hp : TabP w) :
    Calls Tryd.prog 177 #[.agg (ptA a.1 a.2), .agg (ptA b.1 b.2), .agg (fldA u)] w fun e w' => e = .returned (.tuple #[.agg (ptA (stepN a b u).1.1 (stepN a b u).1.2), .agg (ptA (stepN a b u).2.1 (stepN a b u).2.2)]) ∧ Below w.heap.size w w' :=
  stepped_let a.1 a.2 b.1 b.2 u _ _ _ _ _ _ _ _ _ _ _ _ _ _ _ _ _ _ w h1 h2 h3 h4 h5 hp rfl rfl rfl rfl rfl rfl rfl rfl rfl rfl rfl rfl rfl rfl rfl rfl rfl rfl

end Go.Proofs.YtfbcmckepdjdkaaDoor
